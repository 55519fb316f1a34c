/-
  No cell of these rows narrows 'for every input' (looked for: loops, veiled, ifaces, maps, wideKeys, modest, calm, conditions, laid).
  DERIVED. THE GIVEN ROWS OF THIS SEAT. 5 by the template 'for every input the law returns true; each argument reads behind the call as it read before'; 0 by the template 'total and deterministic' (their statements: YtfemplekibpfoaaGreatTotals.lean).
  GIVEN WITH THE SEED: the statements are not yours to turn. If you find one false, say at which input.
  Laid BY PROGRAM, IN A SANDBOX (cutbox-rows.mjs): the forced cells as the released guide's own fill.sh prints them over the translation 78f124934c676670… (all of the seat's roots in one cut). By AI agents, Wed Nov 11 2026. No macro, syntax, notation, axiom, sorry.
-/
import Derived.Test.YtfemplekibpfoaaGreatChecked
import GoSem.Claim
import GoSem.ClaimJoined
import GoSem.ClaimMapViews
import Derived.JoinedTies
import Derived.KernelRfl
namespace Go.Proofs.YtfemplekibpfoaaGreat
/- THE CELL 'sum', in the pinned program and in every row, IS THE sha256 OF THE DUMP (.gsa) THAT YtfemplekibpfoaaGreatProg.lean LOADS. Nothing in Lean hashes anything: it is a label: what it is worth is what the hold of that sum in a sandbox is worth. -/
noncomputable def Tryz.pinned : Pinned := { name := "ytfemplekibpfoaagreat", sum := "78f124934c676670afff450a1eca84bb980a67bb7cf33cc0ebeec8ea9f325d50", checked := Tryz.checked }
namespace Rows
def none {H : Type} : Left H := { results := [], args := [] }

/-- 'laws.FnExpunges': WHATEVER THE INPUT: true; the input reads as it did. -/
def fnExpungesSpec : ChangeSpec := { name := "fnExpunges", fn := fun _ => fun
  | [d] => { results := [.lit (.bool true)], args := [d] }
  | _ => none }
def fnExpungesRow : OpenClaim := { program := "ytfemplekibpfoaagreat", sum := "78f124934c676670afff450a1eca84bb980a67bb7cf33cc0ebeec8ea9f325d50", func := "loop.example/g00247/laws.FnExpunges", spec := "fnExpunges", unfollowed := true, recurses := true, apart := false }
def FnExpungesSaid : Prop := fnExpungesRow.holds Tryz.pinned (OpenSpec.ofChange fnExpungesSpec)

/-- ITS FALSE NEIGHBOUR: 'it returns false'. Refute it at one input. -/
def fnExpungesWrong : ChangeSpec := { name := "fnExpunges", fn := fun _ => fun
  | [d] => { results := [.lit (.bool false)], args := [d] }
  | _ => none }
def FnExpungesWrongFalsely : Prop := fnExpungesRow.holds Tryz.pinned (OpenSpec.ofChange fnExpungesWrong)

/-- 'laws.FnBoxesTold': WHATEVER THE INPUT: true; the input reads as it did. -/
def fnBoxesToldSpec : ChangeSpec := { name := "fnBoxesTold", fn := fun _ => fun
  | [d] => { results := [.lit (.bool true)], args := [d] }
  | _ => none }
def fnBoxesToldRow : OpenClaim := { program := "ytfemplekibpfoaagreat", sum := "78f124934c676670afff450a1eca84bb980a67bb7cf33cc0ebeec8ea9f325d50", func := "loop.example/g00247/laws.FnBoxesTold", spec := "fnBoxesTold", unfollowed := true, recurses := true, apart := false }
def FnBoxesToldSaid : Prop := fnBoxesToldRow.holds Tryz.pinned (OpenSpec.ofChange fnBoxesToldSpec)

/-- ITS FALSE NEIGHBOUR: 'it returns false'. Refute it at one input. -/
def fnBoxesToldWrong : ChangeSpec := { name := "fnBoxesTold", fn := fun _ => fun
  | [d] => { results := [.lit (.bool false)], args := [d] }
  | _ => none }
def FnBoxesToldWrongFalsely : Prop := fnBoxesToldRow.holds Tryz.pinned (OpenSpec.ofChange fnBoxesToldWrong)

/-- 'laws.FnBoxes': WHATEVER THE INPUT: true; the input reads as it did. -/
def fnBoxesSpec : ChangeSpec := { name := "fnBoxes", fn := fun _ => fun
  | [d] => { results := [.lit (.bool true)], args := [d] }
  | _ => none }
def fnBoxesRow : OpenClaim := { program := "ytfemplekibpfoaagreat", sum := "78f124934c676670afff450a1eca84bb980a67bb7cf33cc0ebeec8ea9f325d50", func := "loop.example/g00247/laws.FnBoxes", spec := "fnBoxes", inPlace := ["slices.overlaps[*loop.example/g00247/impl.Box]"], unfollowed := true, recurses := true, apart := false }
def FnBoxesSaid : Prop := fnBoxesRow.holds Tryz.pinned (OpenSpec.ofChange fnBoxesSpec)

/-- ITS FALSE NEIGHBOUR: 'it returns false'. Refute it at one input. -/
def fnBoxesWrong : ChangeSpec := { name := "fnBoxes", fn := fun _ => fun
  | [d] => { results := [.lit (.bool false)], args := [d] }
  | _ => none }
def FnBoxesWrongFalsely : Prop := fnBoxesRow.holds Tryz.pinned (OpenSpec.ofChange fnBoxesWrong)

/-- 'laws.FnCopiesMails': WHATEVER THE INPUT: true; the input reads as it did. -/
def fnCopiesMailsSpec : ChangeSpec := { name := "fnCopiesMails", fn := fun _ => fun
  | [d] => { results := [.lit (.bool true)], args := [d] }
  | _ => none }
def fnCopiesMailsRow : OpenClaim := { program := "ytfemplekibpfoaagreat", sum := "78f124934c676670afff450a1eca84bb980a67bb7cf33cc0ebeec8ea9f325d50", func := "loop.example/g00247/laws.FnCopiesMails", spec := "fnCopiesMails", inPlace := ["slices.overlaps[*loop.example/g00247/impl.Box]"], recurses := true, apart := false }
def FnCopiesMailsSaid : Prop := fnCopiesMailsRow.holds Tryz.pinned (OpenSpec.ofChange fnCopiesMailsSpec)

/-- ITS FALSE NEIGHBOUR: 'it returns false'. Refute it at one input. -/
def fnCopiesMailsWrong : ChangeSpec := { name := "fnCopiesMails", fn := fun _ => fun
  | [d] => { results := [.lit (.bool false)], args := [d] }
  | _ => none }
def FnCopiesMailsWrongFalsely : Prop := fnCopiesMailsRow.holds Tryz.pinned (OpenSpec.ofChange fnCopiesMailsWrong)

/-- 'laws.FnMovesMails': WHATEVER THE INPUT: true; the input reads as it did. -/
def fnMovesMailsSpec : ChangeSpec := { name := "fnMovesMails", fn := fun _ => fun
  | [d] => { results := [.lit (.bool true)], args := [d] }
  | _ => none }
def fnMovesMailsRow : OpenClaim := { program := "ytfemplekibpfoaagreat", sum := "78f124934c676670afff450a1eca84bb980a67bb7cf33cc0ebeec8ea9f325d50", func := "loop.example/g00247/laws.FnMovesMails", spec := "fnMovesMails", inPlace := ["slices.overlaps[*loop.example/g00247/impl.Box]"], unfollowed := true, recurses := true, apart := false }
def FnMovesMailsSaid : Prop := fnMovesMailsRow.holds Tryz.pinned (OpenSpec.ofChange fnMovesMailsSpec)

/-- ITS FALSE NEIGHBOUR: 'it returns false'. Refute it at one input. -/
def fnMovesMailsWrong : ChangeSpec := { name := "fnMovesMails", fn := fun _ => fun
  | [d] => { results := [.lit (.bool false)], args := [d] }
  | _ => none }
def FnMovesMailsWrongFalsely : Prop := fnMovesMailsRow.holds Tryz.pinned (OpenSpec.ofChange fnMovesMailsWrong)

/- THE SECOND FORM. 'bulk': how many values and letters a reading holds, each counted each time it is reached (what is shared counts as often as it is met; a slice's spare places count too). A statement '..UptoSaid' is the law's where the arguments, and the package variables that the reading takes, are together of bulk at most 1048576: NARROWER than '..Said'. Prove '..Said' where nothing that the law and all that it calls make is longer than what came in: it says more and counts as full. Else prove '..UptoSaid'. A law counts once. -/
mutual
def uptoBulk {H : Type} : DataW H → Nat
  | .lit (.string bytes) => bytes.length + 1
  | .lit _ => 1
  | .nil => 1
  | .ptr d => uptoBulk d + 1
  | .slice elems spare => uptoBulkAll elems + uptoBulkAll spare + 1
  | .agg parts => uptoBulkAll parts + 1
  | .iface _ d => uptoBulk d + 1
  | .map entries => uptoBulkEntries entries + 1
  | .held _ => 1
def uptoBulkAll {H : Type} : List (DataW H) → Nat
  | [] => 0
  | d :: r => uptoBulk d + uptoBulkAll r
def uptoBulkEntries {H : Type} : List (Lit × DataW H) → Nat
  | [] => 0
  | x :: r => uptoBulkEntry x + uptoBulkEntries r
def uptoBulkEntry {H : Type} : Lit × DataW H → Nat
  | (.string bytes, d) => bytes.length + uptoBulk d + 1
  | (_, d) => uptoBulk d + 1
 end
def uptoSmall : (H : Type) → List (DataW H) → Bool := fun _ ds => decide (uptoBulkAll ds ≤ 1048576)
def OpenSpec.upto (s : _root_.Go.ChangeSpec) : _root_.Go.OpenSpec := { _root_.Go.OpenSpec.ofChange s with cond := some uptoSmall }

/-- 'laws.FnExpunges', WHERE WHAT IT READS IS OF BULK AT MOST 1048576: true; the input reads as it did. -/
def fnExpungesUptoRow : OpenClaim := { program := "ytfemplekibpfoaagreat", sum := "78f124934c676670afff450a1eca84bb980a67bb7cf33cc0ebeec8ea9f325d50", func := "loop.example/g00247/laws.FnExpunges", spec := "fnExpunges", unfollowed := true, recurses := true, apart := false, narrowed := true }
def FnExpungesUptoSaid : Prop := fnExpungesUptoRow.holds Tryz.pinned (OpenSpec.upto fnExpungesSpec)

/-- 'laws.FnBoxesTold', WHERE WHAT IT READS IS OF BULK AT MOST 1048576: true; the input reads as it did. -/
def fnBoxesToldUptoRow : OpenClaim := { program := "ytfemplekibpfoaagreat", sum := "78f124934c676670afff450a1eca84bb980a67bb7cf33cc0ebeec8ea9f325d50", func := "loop.example/g00247/laws.FnBoxesTold", spec := "fnBoxesTold", unfollowed := true, recurses := true, apart := false, narrowed := true }
def FnBoxesToldUptoSaid : Prop := fnBoxesToldUptoRow.holds Tryz.pinned (OpenSpec.upto fnBoxesToldSpec)

/-- 'laws.FnBoxes', WHERE WHAT IT READS IS OF BULK AT MOST 1048576: true; the input reads as it did. -/
def fnBoxesUptoRow : OpenClaim := { program := "ytfemplekibpfoaagreat", sum := "78f124934c676670afff450a1eca84bb980a67bb7cf33cc0ebeec8ea9f325d50", func := "loop.example/g00247/laws.FnBoxes", spec := "fnBoxes", inPlace := ["slices.overlaps[*loop.example/g00247/impl.Box]"], unfollowed := true, recurses := true, apart := false, narrowed := true }
def FnBoxesUptoSaid : Prop := fnBoxesUptoRow.holds Tryz.pinned (OpenSpec.upto fnBoxesSpec)

/-- 'laws.FnCopiesMails', WHERE WHAT IT READS IS OF BULK AT MOST 1048576: true; the input reads as it did. -/
def fnCopiesMailsUptoRow : OpenClaim := { program := "ytfemplekibpfoaagreat", sum := "78f124934c676670afff450a1eca84bb980a67bb7cf33cc0ebeec8ea9f325d50", func := "loop.example/g00247/laws.FnCopiesMails", spec := "fnCopiesMails", inPlace := ["slices.overlaps[*loop.example/g00247/impl.Box]"], recurses := true, apart := false, narrowed := true }
def FnCopiesMailsUptoSaid : Prop := fnCopiesMailsUptoRow.holds Tryz.pinned (OpenSpec.upto fnCopiesMailsSpec)

/-- 'laws.FnMovesMails', WHERE WHAT IT READS IS OF BULK AT MOST 1048576: true; the input reads as it did. -/
def fnMovesMailsUptoRow : OpenClaim := { program := "ytfemplekibpfoaagreat", sum := "78f124934c676670afff450a1eca84bb980a67bb7cf33cc0ebeec8ea9f325d50", func := "loop.example/g00247/laws.FnMovesMails", spec := "fnMovesMails", inPlace := ["slices.overlaps[*loop.example/g00247/impl.Box]"], unfollowed := true, recurses := true, apart := false, narrowed := true }
def FnMovesMailsUptoSaid : Prop := fnMovesMailsUptoRow.holds Tryz.pinned (OpenSpec.upto fnMovesMailsSpec)

end Rows
end Go.Proofs.YtfemplekibpfoaaGreat
