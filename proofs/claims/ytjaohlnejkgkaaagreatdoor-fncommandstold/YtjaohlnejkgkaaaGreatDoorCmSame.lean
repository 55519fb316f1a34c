/- Commands: sameTexts of the laws. -/
import Derived.Test.YtjaohlnejkgkaaaGreatDoorCmSA
import Derived.Test.YtjaohlnejkgkaaaGreatDoorMemR
namespace Go.Proofs.YtjaohlnejkgkaaaGreatDoor
open Go.RowKit
open Plain
set_option linter.unusedVariables false
set_option linter.unusedSimpArgs false
attribute [local go_sem] cell_of frozen_of
set_option maxHeartbeats 4000000 in
set_option maxRecDepth 100000 in
theorem sameTexts_same (l : List (List UInt8)) (a1 a2 : Option Addr) (c1 c2 : Nat) (w : World) (hn : l.length ≤ 1048576) (h1 : SeeW w a1 l) (h2 : SeeW w a2 l) :
    Calls Tryz.prog 11 #[.slice a1 l.length c1, .slice a2 l.length c2] w fun e w' => e = .returned (.bool true) ∧ Below w.heap.size w w' := by
  have H1 := hide h1
  have H2 := hide h2
  have M := Mem.start w
  clear h1 h2
  go_enter Tryz.func11, Tryz.ntmps11
  go_wp2
  go_loopw [5] (fun i W => ∃ k : Nat, k ≤ l.length ∧ i = .int .i64 k ∧ Mem w W []) (fun i _ => l.length - (intOf i).toNat)
  case atStart => exact ⟨0, Nat.zero_le _, rfl, M⟩
  clear M
  case round =>
    obtain ⟨k, hk, rfl, M⟩ := hrel
    by_cases hlt : k < l.length
    · have hx := List.getElem?_eq_getElem hlt
      obtain ⟨g1, rfl, d1⟩ := unhide H1 k _ hx
      obtain ⟨g2, rfl, d2⟩ := unhide H2 k _ hx
      generalize l[k] = y at *
      have i1 : (0 : Int) ≤ (k : Int) := by omega
      have i2 : (k : Int) < (l.length : Int) := by omega
      go_wp2
      refine mb 9 (fun M => ?_)
      refine tm 0 17 ?_; refine tm 1 18 ?_; refine tm 2 19 ?_; refine tm 3 20 ?_; refine tm 4 21 ?_; refine tm 5 22 ?_; refine tm 6 23 ?_; refine tm 7 24 ?_; refine tm 8 25 ?_
      refine td ?_
      go_wp2
      exact ⟨⟨k + 1, by omega, by go_num, Mem.end⟩, by simp [intOf]; omega⟩
    · obtain rfl : k = l.length := by omega
      go_wp2
      go_ret
      exact ⟨rfl, M.below⟩
end Go.Proofs.YtjaohlnejkgkaaaGreatDoor
