/- Boxes over Mem: what a row of mails and one of tombs is made of. -/
import Derived.Test.YtihdgfihdecalaaGreatDoorMemB
namespace Go.Proofs.YtihdgfihdecalaaGreatDoor
open Go.RowKit
open Plain
set_option linter.unusedVariables false
set_option linter.unusedSimpArgs false
instance Tryz.elemMail : Elem Tryz.prog 31 55 4 40 := ⟨Tryz.underlying31, by
  obtain ⟨i0, hi, hz0, hz1, hz2⟩ := info_parts Tryz.infoMail
  exact ⟨i0, _, hi, hz0, hz1, hz2, rfl, by decide⟩⟩
instance Tryz.elemTomb : Elem Tryz.prog 32 81 2 16 := ⟨Tryz.underlying32, by
  obtain ⟨i0, hi, hz0, hz1, hz2⟩ := info_parts Tryz.infoTomb
  exact ⟨i0, _, hi, hz0, hz1, hz2, rfl, by decide⟩⟩
end Go.Proofs.YtihdgfihdecalaaGreatDoor
