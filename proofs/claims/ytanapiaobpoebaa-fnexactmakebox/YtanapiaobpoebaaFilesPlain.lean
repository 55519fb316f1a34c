/- Files, plainly: a name, a text, how much of it is kept. Nothing of the program stands here. -/
import Derived.Below
import Derived.Test.YtanapiaobpoebaaPlainA
namespace Go.Proofs.Ytanapiaobpoebaa.Plain

structure Fl where
 name : ByteArray
 text : ByteArray
 kept : Int

end Go.Proofs.Ytanapiaobpoebaa.Plain
