/-
  NARROWER THAN 'FOR EVERY INPUT', by the rows' own cells (each row's printed sentence says how): FnExactReadFlags: laid · FnFlags: laid · FnEachFlag: laid.
  DERIVED. THE GIVEN ROWS OF THIS SEAT. 3 by the template 'for every input the law returns true; each argument reads behind the call as it read before'; 0 by the template 'total and deterministic' (their statements: YtanapiaobpoebaaDoorTotals.lean).
  GIVEN WITH THE SEED: the statements are not yours to turn. If you find one false, say at which input.
  Laid BY PROGRAM, IN A SANDBOX (cutbox-rows.mjs): the forced cells as the released guide's own fill.sh prints them over the translation 89085a39b7e3aeac… (all of the seat's roots in one cut). By AI agents, Wed Nov 11 2026. No macro, syntax, notation, axiom, sorry.
-/
import Derived.Test.YtanapiaobpoebaaDoorChecked
import GoSem.PinnedTables
import GoSem.Claim
import GoSem.ClaimJoined
import GoSem.ClaimMapViews
import Derived.JoinedTies
import Derived.KernelRfl
namespace Go.Proofs.YtanapiaobpoebaaDoor
/- THE CELL 'sum', in the pinned program and in every row, IS THE sha256 OF THE DUMP (.gsa) THAT YtanapiaobpoebaaDoorProg.lean LOADS. Nothing in Lean hashes anything: it is a label: what it is worth is what the hold of that sum in a sandbox is worth. -/
noncomputable def Tryd.pinned : Pinned := { name := "ytanapiaobpoebaadoor", sum := "89085a39b7e3aeac181688ddee9d2d0e8e0e1c96d6357a17153262e57d6db483", checked := Tryd.checked }
namespace Rows
def none {H : Type} : Left H := { results := [], args := [] }

/- WHAT THE LISTED PACKAGE-LEVEL VARIABLES READ AS WHEN THE CALL BEGINS. Each datum BY PROGRAM (the guide's laid-datum.mjs) off the statement by which the dump's own 'gosem.cut.vars' lays the variable. In a bare row this is a premise. The card (YtanapiaobpoebaaDoorCards.lean) ties it to the program's text. -/
def laid_unicode_utf8_acceptRanges {H : Type} : DataW H := .agg [.agg [.lit (.int .u8 128), .lit (.int .u8 191)], .agg [.lit (.int .u8 160), .lit (.int .u8 191)], .agg [.lit (.int .u8 128), .lit (.int .u8 159)], .agg [.lit (.int .u8 144), .lit (.int .u8 191)], .agg [.lit (.int .u8 128), .lit (.int .u8 143)], .agg [.lit (.int .u8 0), .lit (.int .u8 0)], .agg [.lit (.int .u8 0), .lit (.int .u8 0)], .agg [.lit (.int .u8 0), .lit (.int .u8 0)], .agg [.lit (.int .u8 0), .lit (.int .u8 0)], .agg [.lit (.int .u8 0), .lit (.int .u8 0)], .agg [.lit (.int .u8 0), .lit (.int .u8 0)], .agg [.lit (.int .u8 0), .lit (.int .u8 0)], .agg [.lit (.int .u8 0), .lit (.int .u8 0)], .agg [.lit (.int .u8 0), .lit (.int .u8 0)], .agg [.lit (.int .u8 0), .lit (.int .u8 0)], .agg [.lit (.int .u8 0), .lit (.int .u8 0)]]
def laid_loop_example_g00247_impl_flagNames {H : Type} : DataW H := .agg [.lit (.string [115, 101, 101, 110]), .lit (.string [97, 110, 115, 119, 101, 114, 101, 100]), .lit (.string [102, 108, 97, 103, 103, 101, 100]), .lit (.string [100, 101, 108, 101, 116, 101, 100]), .lit (.string [100, 114, 97, 102, 116])]
/-- One of Go's own tables, pinned by name: the form's constant. -/
def laid_unicode_utf8_first : DataW Unit := Go.Pinned.utf8First

/-- 'laws.FnExactReadFlags': WHATEVER THE INPUT: true; the input reads as it did. -/
def fnExactReadFlagsSpec : ChangeSpec := { name := "fnExactReadFlags", vars := ["loop.example/g00247/impl.flagNames"], fn := fun _ => fun
  | [d, g1] => { results := [.lit (.bool true)], args := [d], vars := [g1] }
  | _ => none }
def fnExactReadFlagsRow : OpenClaim := { program := "ytanapiaobpoebaadoor", sum := "89085a39b7e3aeac181688ddee9d2d0e8e0e1c96d6357a17153262e57d6db483", func := "loop.example/g00247/laws.FnExactReadFlags", spec := "fnExactReadFlags", inPlace := ["internal/bytealg.IndexByteString", "internal/bytealg.IndexString"], unfollowed := true, recurses := true, named := ["unicode/utf8.first", "unicode/utf8.acceptRanges", "internal/bytealg.MaxLen", "loop.example/g00247/impl.flagNames"], apart := false, laid := [("unicode/utf8.acceptRanges", laid_unicode_utf8_acceptRanges), ("loop.example/g00247/impl.flagNames", laid_loop_example_g00247_impl_flagNames), ("unicode/utf8.first", laid_unicode_utf8_first)] }
def FnExactReadFlagsSaid : Prop := fnExactReadFlagsRow.holds Tryd.pinned (OpenSpec.ofChange fnExactReadFlagsSpec)

/-- ITS FALSE NEIGHBOUR: 'it returns false'. Refute it at one input. -/
def fnExactReadFlagsWrong : ChangeSpec := { name := "fnExactReadFlags", vars := ["loop.example/g00247/impl.flagNames"], fn := fun _ => fun
  | [d, g1] => { results := [.lit (.bool false)], args := [d], vars := [g1] }
  | _ => none }
def FnExactReadFlagsWrongFalsely : Prop := fnExactReadFlagsRow.holds Tryd.pinned (OpenSpec.ofChange fnExactReadFlagsWrong)

/-- 'laws.FnFlags': WHATEVER THE INPUT: true; the input reads as it did. -/
def fnFlagsSpec : ChangeSpec := { name := "fnFlags", vars := ["loop.example/g00247/impl.flagNames"], fn := fun _ => fun
  | [d, g1] => { results := [.lit (.bool true)], args := [d], vars := [g1] }
  | _ => none }
def fnFlagsRow : OpenClaim := { program := "ytanapiaobpoebaadoor", sum := "89085a39b7e3aeac181688ddee9d2d0e8e0e1c96d6357a17153262e57d6db483", func := "loop.example/g00247/laws.FnFlags", spec := "fnFlags", inPlace := ["internal/abi.NoEscape", "internal/bytealg.MakeNoZero", "internal/bytealg.IndexByteString", "internal/bytealg.IndexString"], unfollowed := true, recurses := true, named := ["loop.example/g00247/impl.flagNames", "unicode/utf8.first", "unicode/utf8.acceptRanges", "internal/bytealg.MaxLen"], apart := false, laid := [("unicode/utf8.acceptRanges", laid_unicode_utf8_acceptRanges), ("loop.example/g00247/impl.flagNames", laid_loop_example_g00247_impl_flagNames), ("unicode/utf8.first", laid_unicode_utf8_first)] }
def FnFlagsSaid : Prop := fnFlagsRow.holds Tryd.pinned (OpenSpec.ofChange fnFlagsSpec)

/-- ITS FALSE NEIGHBOUR: 'it returns false'. Refute it at one input. -/
def fnFlagsWrong : ChangeSpec := { name := "fnFlags", vars := ["loop.example/g00247/impl.flagNames"], fn := fun _ => fun
  | [d, g1] => { results := [.lit (.bool false)], args := [d], vars := [g1] }
  | _ => none }
def FnFlagsWrongFalsely : Prop := fnFlagsRow.holds Tryd.pinned (OpenSpec.ofChange fnFlagsWrong)

/-- 'laws.FnEachFlag': WHATEVER THE INPUT: true; the input reads as it did. -/
def fnEachFlagSpec : ChangeSpec := { name := "fnEachFlag", vars := ["loop.example/g00247/impl.flagNames"], fn := fun _ => fun
  | [d, g1] => { results := [.lit (.bool true)], args := [d], vars := [g1] }
  | _ => none }
def fnEachFlagRow : OpenClaim := { program := "ytanapiaobpoebaadoor", sum := "89085a39b7e3aeac181688ddee9d2d0e8e0e1c96d6357a17153262e57d6db483", func := "loop.example/g00247/laws.FnEachFlag", spec := "fnEachFlag", inPlace := ["internal/abi.NoEscape", "internal/bytealg.MakeNoZero"], named := ["loop.example/g00247/impl.flagNames"], apart := false, laid := [("loop.example/g00247/impl.flagNames", laid_loop_example_g00247_impl_flagNames)] }
def FnEachFlagSaid : Prop := fnEachFlagRow.holds Tryd.pinned (OpenSpec.ofChange fnEachFlagSpec)

/-- ITS FALSE NEIGHBOUR: 'it returns false'. Refute it at one input. -/
def fnEachFlagWrong : ChangeSpec := { name := "fnEachFlag", vars := ["loop.example/g00247/impl.flagNames"], fn := fun _ => fun
  | [d, g1] => { results := [.lit (.bool false)], args := [d], vars := [g1] }
  | _ => none }
def FnEachFlagWrongFalsely : Prop := fnEachFlagRow.holds Tryd.pinned (OpenSpec.ofChange fnEachFlagWrong)

/- THE SECOND FORM. 'bulk': how many values and letters a reading holds, each counted each time it is reached (what is shared counts as often as it is met; a slice's spare places count too). A statement '..UptoSaid' is the law's where the arguments, and the package variables that the reading takes, are together of bulk at most 1048576: NARROWER than '..Said'. Prove '..Said' where nothing that the law and all that it calls make is longer than what came in: it says more and counts as full. Else prove '..UptoSaid'. A law counts once. -/
mutual
def uptoBulk {H : Type} : DataW H → Nat
  | .lit (.string bytes) => bytes.length + 1
  | .lit _ => 1
  | .nil => 1
  | .ptr d => uptoBulk d + 1
  | .slice elems spare => uptoBulkAll elems + uptoBulkAll spare + 1
  | .agg parts => uptoBulkAll parts + 1
  | .iface _ d => uptoBulk d + 1
  | .map entries => uptoBulkEntries entries + 1
  | .held _ => 1
def uptoBulkAll {H : Type} : List (DataW H) → Nat
  | [] => 0
  | d :: r => uptoBulk d + uptoBulkAll r
def uptoBulkEntries {H : Type} : List (Lit × DataW H) → Nat
  | [] => 0
  | x :: r => uptoBulkEntry x + uptoBulkEntries r
def uptoBulkEntry {H : Type} : Lit × DataW H → Nat
  | (.string bytes, d) => bytes.length + uptoBulk d + 1
  | (_, d) => uptoBulk d + 1
 end
def uptoSmall : (H : Type) → List (DataW H) → Bool := fun _ ds => decide (uptoBulkAll ds ≤ 1048576)
def OpenSpec.upto (s : _root_.Go.ChangeSpec) : _root_.Go.OpenSpec := { _root_.Go.OpenSpec.ofChange s with cond := some uptoSmall }

/-- 'laws.FnExactReadFlags', WHERE WHAT IT READS IS OF BULK AT MOST 1048576: true; the input reads as it did. -/
def fnExactReadFlagsUptoRow : OpenClaim := { program := "ytanapiaobpoebaadoor", sum := "89085a39b7e3aeac181688ddee9d2d0e8e0e1c96d6357a17153262e57d6db483", func := "loop.example/g00247/laws.FnExactReadFlags", spec := "fnExactReadFlags", inPlace := ["internal/bytealg.IndexByteString", "internal/bytealg.IndexString"], unfollowed := true, recurses := true, named := ["unicode/utf8.first", "unicode/utf8.acceptRanges", "internal/bytealg.MaxLen", "loop.example/g00247/impl.flagNames"], apart := false, laid := [("unicode/utf8.acceptRanges", laid_unicode_utf8_acceptRanges), ("loop.example/g00247/impl.flagNames", laid_loop_example_g00247_impl_flagNames), ("unicode/utf8.first", laid_unicode_utf8_first)], narrowed := true }
def FnExactReadFlagsUptoSaid : Prop := fnExactReadFlagsUptoRow.holds Tryd.pinned (OpenSpec.upto fnExactReadFlagsSpec)

/-- 'laws.FnFlags', WHERE WHAT IT READS IS OF BULK AT MOST 1048576: true; the input reads as it did. -/
def fnFlagsUptoRow : OpenClaim := { program := "ytanapiaobpoebaadoor", sum := "89085a39b7e3aeac181688ddee9d2d0e8e0e1c96d6357a17153262e57d6db483", func := "loop.example/g00247/laws.FnFlags", spec := "fnFlags", inPlace := ["internal/abi.NoEscape", "internal/bytealg.MakeNoZero", "internal/bytealg.IndexByteString", "internal/bytealg.IndexString"], unfollowed := true, recurses := true, named := ["loop.example/g00247/impl.flagNames", "unicode/utf8.first", "unicode/utf8.acceptRanges", "internal/bytealg.MaxLen"], apart := false, laid := [("unicode/utf8.acceptRanges", laid_unicode_utf8_acceptRanges), ("loop.example/g00247/impl.flagNames", laid_loop_example_g00247_impl_flagNames), ("unicode/utf8.first", laid_unicode_utf8_first)], narrowed := true }
def FnFlagsUptoSaid : Prop := fnFlagsUptoRow.holds Tryd.pinned (OpenSpec.upto fnFlagsSpec)

/-- 'laws.FnEachFlag', WHERE WHAT IT READS IS OF BULK AT MOST 1048576: true; the input reads as it did. -/
def fnEachFlagUptoRow : OpenClaim := { program := "ytanapiaobpoebaadoor", sum := "89085a39b7e3aeac181688ddee9d2d0e8e0e1c96d6357a17153262e57d6db483", func := "loop.example/g00247/laws.FnEachFlag", spec := "fnEachFlag", inPlace := ["internal/abi.NoEscape", "internal/bytealg.MakeNoZero"], named := ["loop.example/g00247/impl.flagNames"], apart := false, laid := [("loop.example/g00247/impl.flagNames", laid_loop_example_g00247_impl_flagNames)], narrowed := true }
def FnEachFlagUptoSaid : Prop := fnEachFlagUptoRow.holds Tryd.pinned (OpenSpec.upto fnEachFlagSpec)

end Rows
end Go.Proofs.YtanapiaobpoebaaDoor
