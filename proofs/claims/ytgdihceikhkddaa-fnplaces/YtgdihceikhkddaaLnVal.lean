/- Lines as values: what the laws' own helpers do to them. Made by gen_line.py. -/
import Derived.Test.YtgdihceikhkddaaRangeMarks
import Derived.Test.YtgdihceikhkddaaBoxA
import Derived.Test.YtgdihceikhkddaaRegA
import Derived.Test.YtgdihceikhkddaaSetA
namespace Go.Proofs.Ytgdihceikhkddaa
open Go.RowKit Go.ChangeShapes Go.WideShapes Go.ChangeAt Go.Deep
open Plain
set_option linter.unusedVariables false
set_option linter.unusedSimpArgs false

namespace Plain
structure Ln where
 kind : Int
 num : Int
 uid : Int
 flags : Int
 mod : Int
 set : List Rg
 all : Bool
end Plain
abbrev lnV (x : Ln) (v : Value) : Value := .agg #[.int .i64 x.kind, .int .i64 x.num, .int .i64 x.uid, .int .i64 x.flags, .int .i64 x.mod, v, .bool x.all]
/-- A line that came in. -/
structure ArgLn (B : Nat) (w : World) (a : Option Addr) (x : Ln) : Prop where
 m : x.set.length ≤ maxLen
 set : ArgR B w a x.set
theorem ArgLn.up {w w' : World} {a : Option Addr} {x : Ln} (h : ArgLn w.heap.size w a x) (hb : Below w.heap.size w w') : ArgLn w'.heap.size w' a x := ⟨h.m, h.set.up hb⟩
end Go.Proofs.Ytgdihceikhkddaa
