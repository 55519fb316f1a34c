/- Rows of strings: what the laws' own helpers do to them. -/
import Derived.Test.YtjaohlnejkgkaaaGreatDoorBase
import Derived.Test.YtjaohlnejkgkaaaGreatDoorPlainA
import Derived.Deep.RegionHeld3
import Derived.Deep.QuietTactic
import Derived.BigQuiet
import Derived.WalkSmall
namespace Go.Proofs.YtjaohlnejkgkaaaGreatDoor
open Go.RowKit
open Plain
set_option linter.unusedVariables false

/-- The cells of a row of strings. -/
theorem grown_below {w w1 : World} (h : Below w.heap.size w w1) (row : Option Nat) : w.grownBy w1 row := ⟨h.os, h.tape, h.output, h.size, fun k hk _ => h.block k hk⟩
theorem own_below {w w1 : World} {B n : Nat} {e : TypeId} {size : Nat} {v : Value} {xs : List Value} (h : w.ownsRow B e size v n xs) (hb : Below w.heap.size w w1) : w1.ownsRow B e size v n xs :=
  h.kept (grown_below hb none) (Classical.em _)
theorem own_lower {w : World} {B B' n : Nat} {e : TypeId} {size : Nat} {v : Value} {xs : List Value} (h : w.ownsRow B e size v n xs) (hB : B' ≤ B) : w.ownsRow B' e size v n xs := by
  refine ⟨h.1, ?_⟩
  rcases h.2 with h2 | ⟨g, cap, cur, h1, h2, h3⟩
  · exact .inl h2
  · exact .inr ⟨g, cap, cur, h1, by omega, h3⟩
theorem str_cell {w : World} {B g n cap : Nat} {l : List (List UInt8)} (h : w.ownsRow B 9 1 (.slice (some ⟨g, 0, none⟩) n cap) n (strs l)) {k : Nat} {x : List UInt8} (hx : l[k]? = some x) (hk : k < n) :
    w.cell? ⟨g, k, none⟩ = some (.string ⟨x.toArray⟩) := by
  rw [h.cellAt k (by omega)]
  unfold strs
  rw [List.getElem?_map, hx]; rfl


end Go.Proofs.YtjaohlnejkgkaaaGreatDoor
