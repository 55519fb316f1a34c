/- What one knows behind a line: TakeLine's answer, plainly. Made by gen_take.py. -/
import Derived.Test.YtgdihceikhkddaaSnRead
import Derived.Test.YtgdihceikhkddaaLnVal
import Derived.Test.YtgdihceikhkddaaBoxP
namespace Go.Proofs.Ytgdihceikhkddaa
open Go.RowKit Go.ChangeShapes Go.WideShapes Go.ChangeAt Go.Deep
open Plain
set_option linter.unusedVariables false
set_option linter.unusedSimpArgs false

namespace Plain
def takeL (l : List Sn) (k n u f m : Int) : List Sn :=
 if k = 1 then (if inI n 0 30 = true then l.take n.toNat ++ List.replicate (n.toNat - l.length) sn0 else l)
 else if k = 2 then (if inI n 1 l.length = true then l.take (n.toNat - 1) ++ l.drop n.toNat else l)
 else if k = 3 then (if inI n 1 l.length = true then l.take (n.toNat - 1) ++ ([⟨u, f, m⟩] ++ l.drop n.toNat) else l)
 else if k = 9 then [] else l
theorem inI_nat {n a b : Int} (h : inI n a b = true) (ha : 0 ≤ a) : ∃ k : Nat, n = (k : Int) ∧ a ≤ (k : Int) ∧ (k : Int) ≤ b := by
 unfold inI at h
 simp at h
 exact ⟨n.toNat, by omega, by omega, by omega⟩
theorem takeL_len (l : List Sn) (k n u f m : Int) : (takeL l k n u f m).length ≤ l.length + 30 := by
 unfold takeL inI
 repeat' split
 all_goals (simp at *)
 all_goals omega
end Plain
theorem rowC_take_get (l : List Sn) (n j : Nat) (v : Value) (h : (rowC snC (l.take n))[j]? = some v) : (rowC snC l)[j]? = some v := by
 have e : rowC snC l = rowC snC (l.take n) ++ rowC snC (l.drop n) := by rw [← rowC_append, List.take_append_drop]
 rw [e, List.getElem?_append_left (List.getElem?_eq_some_iff.1 h).1]
 exact h
end Go.Proofs.Ytgdihceikhkddaa
