/- The program's sets: a set, or nothing where it is not right. -/
import Derived.Test.YthnofckkehephaaGreatDoorImplOk
namespace Go.Proofs.YthnofckkehephaaGreatDoor
open Go.RowKit
open Plain
set_option linter.unusedVariables false

theorem impl_orNothing_any (t : List Rg) (u : Value) (B : Nat) (w : World) (ht : t.length ≤ 4000000) (hu : OwnR B w u t) :
    Calls Tryz.prog 39 #[u] w fun e w' => ∃ v', e = .returned (.tuple #[v', .bool (orNo t).2]) ∧ OwnR B w' v' (orNo t).1 ∧ Below w.heap.size w w' := by
  have OK := impl_SetOk_wide t u w ht hu.wide
  have HU := hide hu
  obtain ⟨a2, c2, rfl⟩ := g_shape hu
  unfold orNo
  cases ho : okS t with
  | false =>
    rw [ho] at OK
    have Q := hide OK
    clear OK hu
    go_enter Tryz.func39, Tryz.ntmps39
    go_wp2_with fail
    refine (unhide Q).mono ?_
    rintro e w1 ⟨rfl, hb1⟩
    go_wp2
    go_ret2
    exact ⟨_, rfl, ⟨rfl, .inl ⟨rfl, rfl⟩⟩, hb1⟩
  | true =>
    rw [ho] at OK
    have Q := hide OK
    clear OK hu
    go_enter Tryz.func39, Tryz.ntmps39
    go_wp2_with fail
    refine (unhide Q).mono ?_
    rintro e w1 ⟨rfl, hb1⟩
    go_wp2
    go_ret2
    exact ⟨_, rfl, (unhide HU).up hb1, hb1⟩
end Go.Proofs.YthnofckkehephaaGreatDoor
