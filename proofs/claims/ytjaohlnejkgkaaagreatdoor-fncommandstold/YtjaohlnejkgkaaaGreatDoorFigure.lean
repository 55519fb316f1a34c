/- A figure: what spec.l01Figure answers. -/
import Derived.Test.YtjaohlnejkgkaaaGreatDoorBase
import Derived.Test.YtjaohlnejkgkaaaGreatDoorPlainA
namespace Go.Proofs.YtjaohlnejkgkaaaGreatDoor
open Go.RowKit
open Plain
set_option linter.unusedVariables false

theorem l01Figure_any (x : Int) (w : World) (h0 : 0 ≤ x) (h1 : x < 16) :
    Calls Tryz.prog 65 #[.int .i64 x] w fun e w' => e = .returned (.int .u8 (figI x)) ∧ w = w' := by
  unfold figI
  obtain ⟨n, rfl⟩ := Int.eq_ofNat_of_zero_le h0
  rw [Int.toNat_natCast]
  by_cases h : n < 10
  · rw [fig_low h]
    go_enter Tryz.func65, Tryz.ntmps65
    go_wp2
    go_ret
    exact ⟨rfl, rfl⟩
  · rw [fig_high h (by omega)]
    go_enter Tryz.func65, Tryz.ntmps65
    go_wp2
    go_ret
    exact ⟨by go_num, rfl⟩

end Go.Proofs.YtjaohlnejkgkaaaGreatDoor
