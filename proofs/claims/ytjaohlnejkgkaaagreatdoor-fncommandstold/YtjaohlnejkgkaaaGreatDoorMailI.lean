/- Mails: the program's MailOk, cutMail. -/
import Derived.Test.YtjaohlnejkgkaaaGreatDoorRunePlain
import Derived.Test.YtjaohlnejkgkaaaGreatDoorFlagA
namespace Go.Proofs.YtjaohlnejkgkaaaGreatDoor
open Go.RowKit
open Plain
set_option linter.unusedVariables false

namespace Plain
theorem all_over {t : List UInt8} {p d : Nat} (hp : p + d ≤ t.length) (ha : (t.take p).all (fun b => b != 0) = true) (hx : ∀ j, p ≤ j → j < p + d → t.getD j 0 ≠ 0) : (t.take (p + d)).all (fun b => b != 0) = true := by
  rw [List.take_add, List.all_append, ha, Bool.true_and, List.all_eq_true]
  intro b hb
  obtain ⟨k, hk, rfl⟩ := List.getElem_of_mem hb
  have hk2 : k < d := by have := hk; simp at this; omega
  have h3 := hx (p + k) (by omega) (by omega)
  rw [List.getD_eq_getElem?_getD, List.getElem?_eq_getElem (by omega)] at h3
  simpa using h3
theorem all_zero {t : List UInt8} {p : Nat} (hp : p < t.length) (h : t.getD p 0 = 0) : t.all (fun b => b != 0) = false := by
  refine all_no (k := p) ?_
  rw [List.getElem?_eq_getElem hp]
  rw [List.getD_eq_getElem?_getD, List.getElem?_eq_getElem hp] at h
  simpa using h
theorem mail_no {t : List UInt8} (h : t.all (fun b => b != 0) = false) : mailOkL t = false := by
  unfold mailOkL
  rw [h]
  rfl
theorem mail_in {t : List UInt8} (h : t.all (fun b => b != 0) = true) : mailOkL t = (decide (1 ≤ t.length) && decide (t.length ≤ 200)) := by
  unfold mailOkL
  rw [h]
  rfl
end Plain

end Go.Proofs.YtjaohlnejkgkaaaGreatDoor
