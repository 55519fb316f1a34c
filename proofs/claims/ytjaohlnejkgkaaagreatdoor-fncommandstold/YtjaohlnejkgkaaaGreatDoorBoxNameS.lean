/- The specification's BoxName, l08HasMail. -/
import Derived.Test.YtjaohlnejkgkaaaGreatDoorBoxP
import Derived.Test.YtjaohlnejkgkaaaGreatDoorBoxA
import Derived.Test.YtjaohlnejkgkaaaGreatDoorFlagA
namespace Go.Proofs.YtjaohlnejkgkaaaGreatDoor
open Go.RowKit
open Plain
set_option linter.unusedVariables false

theorem in_any (x l m : Int) (w : World) : Calls Tryz.prog 23 #[.int .i64 x, .int .i64 l, .int .i64 m] w fun e w' => e = .returned (.bool (inI x l m)) ∧ w' = w := l01In_held x l m w
namespace Plain
def letter (c : UInt8) : Bool := decide (97 ≤ c.toNat) && decide (c.toNat ≤ 122)
theorem name_no {l : List UInt8} {i : Nat} {c : UInt8} (h : l[i]? = some c) (hc : letter c = false) : nameOkL l = false := by
  unfold nameOkL
  have : l.all (fun c => decide (97 ≤ c.toNat) && decide (c.toNat ≤ 122)) = false := by
    rw [List.all_eq_false]
    exact ⟨c, List.mem_of_getElem? h, by rw [show (decide (97 ≤ c.toNat) && decide (c.toNat ≤ 122)) = letter c from rfl, hc]; decide⟩
  rw [this, Bool.false_and]
theorem name_yes {l : List UInt8} (h : ∀ (i : Nat) (c : UInt8), l[i]? = some c → letter c = true) : nameOkL l = inI (l.length : Int) 1 8 := by
  unfold nameOkL
  have : l.all (fun c => decide (97 ≤ c.toNat) && decide (c.toNat ≤ 122)) = true := by
    rw [List.all_eq_true]
    intro c hc
    obtain ⟨i, hi, rfl⟩ := List.getElem_of_mem hc
    exact h i _ (List.getElem?_eq_getElem hi)
  rw [this, Bool.true_and]
end Plain
namespace Plain
theorem has_no {l : List Ml} {u : Int} (h : ∀ (i : Nat) (m : Ml), l[i]? = some m → (m.uid == u) = false) : hasUid l u = false := by
  unfold hasUid
  rw [List.any_eq_false]
  intro m hm
  obtain ⟨i, hi, rfl⟩ := List.getElem_of_mem hm
  rw [h i _ (List.getElem?_eq_getElem hi)]
  decide
theorem has_yes {l : List Ml} {u : Int} {i : Nat} {m : Ml} (h : l[i]? = some m) (hm : (m.uid == u) = true) : hasUid l u = true := by
  unfold hasUid
  rw [List.any_eq_true]
  exact ⟨m, List.mem_of_getElem? h, hm⟩
end Plain
end Go.Proofs.YtjaohlnejkgkaaaGreatDoor
