/- Boxes: the program's within and BoxName. -/
import Derived.Test.YtjaohlnejkgkaaaGreatDoorBoxNameS
import Derived.Test.YtjaohlnejkgkaaaGreatDoorMailI
namespace Go.Proofs.YtjaohlnejkgkaaaGreatDoor
open Go.RowKit
open Plain
set_option linter.unusedVariables false

theorem impl_within_any (x l m : Int) (w : World) : Calls Tryz.prog 20 #[.int .i64 x, .int .i64 l, .int .i64 m] w fun e w' => e = .returned (.bool (inI x l m)) ∧ w' = w := by
  unfold inI
  by_cases h : l ≤ x
  · have hd : decide (l ≤ x) = true := by simpa using h
    by_cases h2 : x ≤ m
    · have hd2 : decide (x ≤ m) = true := by simpa using h2
      rw [hd, hd2]
      go_enter Tryz.func20, Tryz.ntmps20
      go_wp2
      go_ret
      exact ⟨rfl, rfl⟩
    · have hd2 : decide (x ≤ m) = false := by simpa using h2
      rw [hd, hd2]
      go_enter Tryz.func20, Tryz.ntmps20
      go_wp2
      go_ret
      exact ⟨rfl, rfl⟩
  · have hd : decide (l ≤ x) = false := by simpa using h
    rw [hd]
    go_enter Tryz.func20, Tryz.ntmps20
    go_wp2
    go_ret
    exact ⟨rfl, rfl⟩

namespace Plain
theorem name_bad {l : List UInt8} {p : Nat} (hp : p < l.length) (h : letter (l.getD p 0) = false) : nameOkL l = false :=
  name_no (i := p) (c := l.getD p 0) (by rw [List.getD_eq_getElem?_getD, List.getElem?_eq_getElem hp]; rfl) h
theorem name_good {l : List UInt8} (h : ∀ j, j < l.length → letter (l.getD j 0) = true) : nameOkL l = inI (l.length : Int) 1 8 :=
  name_yes fun i c hc => by
    have hi := (List.getElem?_eq_some_iff.1 hc).1
    have := h i hi
    rwa [List.getD_eq_getElem?_getD, hc] at this
theorem letter_no {c : UInt8} (h : c.toNat < 97 ∨ 122 < c.toNat) : letter c = false := by
  unfold letter
  rcases h with h | h
  · rw [decide_eq_false (by omega)]; rfl
  · rw [decide_eq_false (p := c.toNat ≤ 122) (by omega), Bool.and_false]
theorem letter_yes {c : UInt8} (h : 97 ≤ c.toNat) (h2 : c.toNat ≤ 122) : letter c = true := by
  unfold letter
  rw [decide_eq_true h, decide_eq_true h2]; rfl
end Plain

end Go.Proofs.YtjaohlnejkgkaaaGreatDoor
