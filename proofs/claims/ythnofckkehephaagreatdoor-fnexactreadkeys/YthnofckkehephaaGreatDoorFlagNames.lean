/- The program's table of flags' names; (flags).has. -/
import Derived.Test.YthnofckkehephaaGreatDoorStrTab
import Derived.Test.YthnofckkehephaaGreatDoorImplFlag
import Derived.Test.YthnofckkehephaaGreatDoorFlagA
import Derived.Test.YthnofckkehephaaGreatDoorShelf
import Derived.WalkSmall
namespace Go.Proofs.YthnofckkehephaaGreatDoor
open Go.RowKit
open Plain
set_option linter.unusedVariables false

def Named (w : World) : Prop := StrIs Tryz.prog w "loop.example/g00247/impl.flagNames" namesL
theorem gNames : Tryz.prog.globalNamed "loop.example/g00247/impl.flagNames" = some 0 := by kernel_rfl
theorem Named.cell {w : World} (h : Named w) (i : Nat) {s : List UInt8} (hi : namesL[i]? = some s) : w.cell? ⟨0, i, none⟩ = some (.string ⟨s.toArray⟩) := StrIs.cell h gNames i hi
theorem Named.below {w w1 : World} (ht : Named w) (h : Below w.heap.size w w1) : Named w1 :=
  var?_below h gNames (World.block_lt_of_cell? w _ (ht.cell 0 rfl)) ht

theorem name0 (w : World) : (Instr.index 65 (.agg #[.string ⟨seenL.toArray⟩, .string ⟨answL.toArray⟩, .string ⟨flagL.toArray⟩, .string ⟨deleL.toArray⟩, .string ⟨drafL.toArray⟩]) (.int .i64 0)).run Tryz.prog w = .ok (.string ⟨seenL.toArray⟩) w := by kernel_rfl
theorem name1 (w : World) : (Instr.index 65 (.agg #[.string ⟨seenL.toArray⟩, .string ⟨answL.toArray⟩, .string ⟨flagL.toArray⟩, .string ⟨deleL.toArray⟩, .string ⟨drafL.toArray⟩]) (.int .i64 1)).run Tryz.prog w = .ok (.string ⟨answL.toArray⟩) w := by kernel_rfl
theorem name2 (w : World) : (Instr.index 65 (.agg #[.string ⟨seenL.toArray⟩, .string ⟨answL.toArray⟩, .string ⟨flagL.toArray⟩, .string ⟨deleL.toArray⟩, .string ⟨drafL.toArray⟩]) (.int .i64 2)).run Tryz.prog w = .ok (.string ⟨flagL.toArray⟩) w := by kernel_rfl
theorem name3 (w : World) : (Instr.index 65 (.agg #[.string ⟨seenL.toArray⟩, .string ⟨answL.toArray⟩, .string ⟨flagL.toArray⟩, .string ⟨deleL.toArray⟩, .string ⟨drafL.toArray⟩]) (.int .i64 3)).run Tryz.prog w = .ok (.string ⟨deleL.toArray⟩) w := by kernel_rfl
theorem name4 (w : World) : (Instr.index 65 (.agg #[.string ⟨seenL.toArray⟩, .string ⟨answL.toArray⟩, .string ⟨flagL.toArray⟩, .string ⟨deleL.toArray⟩, .string ⟨drafL.toArray⟩]) (.int .i64 4)).run Tryz.prog w = .ok (.string ⟨drafL.toArray⟩) w := by kernel_rfl

namespace Plain
theorem hasI : ∀ (a : Fin 32) (k : Fin 5), (bits .and .i64 (a.val : Int) (2 ^ k.val) = 0) ↔ ¬ (a.val : Int) / 2 ^ k.val % 2 = 1 := by decide +kernel
def hasV (a b : Int) : Bool := decide (a / b % 2 = 1)
theorem has_is {a : Int} (h0 : 0 ≤ a) (h1 : a ≤ 31) (k : Nat) (hk : k < 5) : (!bits .and .i64 a (2 ^ k) == 0) = hasV a (2 ^ k) := by
  obtain ⟨x, rfl⟩ := fin_of h0 h1
  have h := hasI x ⟨k, hk⟩
  unfold hasV
  cases hb : (bits .and .i64 (x.val : Int) (2 ^ k) == 0) with
  | true => rw [decide_eq_false (h.1 (by simpa using hb))]; rfl
  | false => rw [decide_eq_true (Decidable.not_not.1 (fun hn => by have := h.2 hn; rw [this] at hb; cases hb))]; rfl
end Plain
end Go.Proofs.YthnofckkehephaaGreatDoor
