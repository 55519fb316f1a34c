/- One act on a disk: the program's answer. -/
import Derived.Test.YtipmbfjcgmchkabShelfDisk
import Derived.Test.YtipmbfjcgmchkabShelfDo
import Derived.Test.YtipmbfjcgmchkabShelfOf
import Derived.Test.YtipmbfjcgmchkabDiskI
namespace Go.Proofs.Ytipmbfjcgmchkab
open Go.RowKit Go.Maps
open Plain
set_option linter.unusedVariables false
set_option linter.unusedSimpArgs false


end Go.Proofs.Ytipmbfjcgmchkab
