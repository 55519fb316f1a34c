/- Figures: what both Hex answer. -/
import Derived.Test.YtbllfkgmnajliaaDoorRows
import Derived.Test.YtbllfkgmnajliaaDoorVar
import Derived.Test.YtbllfkgmnajliaaDoorHexPlain
import Derived.WalkKit
import Derived.WalkSpells
import Derived.ProofKit
import Derived.Handy
import Derived.Deep.RegionHeld3
import Derived.Deep.AppendLies
namespace Go.Proofs.YtbllfkgmnajliaaDoor
open Go.RowKit
open Plain
set_option linter.unusedVariables false

theorem impl_Hex_no (s : ByteArray) (w : World) (h : 20000 < s.size) :
    Calls Tryd.prog 13 #[.string s] w fun e w' => e = .returned (.tuple #[.string ⟨#[]⟩, .bool false]) ∧ Below w.heap.size w w' := by
  go_enter Tryd.func13, Tryd.ntmps13
  go_wp2
  go_ret2
  exact ⟨rfl, Below.refl _ _⟩
end Go.Proofs.YtbllfkgmnajliaaDoor
