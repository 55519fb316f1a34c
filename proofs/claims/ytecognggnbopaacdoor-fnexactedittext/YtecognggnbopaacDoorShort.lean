/- Short texts: what both ShortText answer. -/
import Derived.Test.YtecognggnbopaacDoorRows
import Derived.Test.YtecognggnbopaacDoorVar
import Derived.WalkKit
import Derived.WalkSpells
import Derived.ProofKit
import Derived.Handy
namespace Go.Proofs.YtecognggnbopaacDoor
open Go.RowKit
open Plain
set_option linter.unusedVariables false

theorem impl_ShortText_no (s : ByteArray) (w : World) (h : 20000 < s.size) :
    Calls Tryd.prog 16 #[.string s] w fun e w' => e = .returned (.tuple #[.string ⟨#[]⟩, .bool false]) ∧ Below w.heap.size w w' := by
  go_enter Tryd.func16, Tryd.ntmps16
  go_wp2
  go_ret2
  exact ⟨rfl, Below.refl _ _⟩

theorem impl_ShortText_yes (s : ByteArray) (w : World) (h : s.size ≤ 20000) :
    Calls Tryd.prog 16 #[.string s] w fun e w' => e = .returned (.tuple #[.string (⟨(varL s.size).toArray⟩ ++ s), .bool true]) ∧ Below w.heap.size w w' := by
  have hl : (varL s.size).length ≤ 11 := varL_length _
  have hd : decide ((20000 : Int) < s.size) = false := by simp; omega
  go_enter Tryd.func16, Tryd.ntmps16
  go_wp2_with (first | (go_at_call 18; refine (impl_VarText_yes s.size _ (by omega)).mono ?_; rintro e w1 ⟨rfl, hb⟩))
  go_ret2
  exact ⟨rfl, by assumption⟩
end Go.Proofs.YtecognggnbopaacDoor
