/-
  No cell of these rows narrows 'for every input' (looked for: loops, veiled, ifaces, maps, wideKeys, modest, calm, conditions, laid).
  DERIVED. THE GIVEN ROWS OF THIS SEAT. 5 by the template 'for every input the law returns true; each argument reads behind the call as it read before'; 0 by the template 'total and deterministic' (their statements: YtkmphclmealkeabTotals.lean).
  GIVEN WITH THE SEED: the statements are not yours to turn. If you find one false, say at which input.
  Laid BY PROGRAM, IN A SANDBOX (cutbox-rows.mjs): the forced cells as the released guide's own fill.sh prints them over the translation c2fbc7ad2689fc47… (all of the seat's roots in one cut). By AI agents, Wed Nov 11 2026. No macro, syntax, notation, axiom, sorry.
-/
import Derived.Test.YtkmphclmealkeabChecked
import GoSem.Claim
import GoSem.ClaimJoined
import GoSem.ClaimMapViews
import Derived.JoinedTies
import Derived.KernelRfl
namespace Go.Proofs.Ytkmphclmealkeab
/- THE CELL 'sum', in the pinned program and in every row, IS THE sha256 OF THE DUMP (.gsa) THAT YtkmphclmealkeabProg.lean LOADS. Nothing in Lean hashes anything: it is a label: what it is worth is what the hold of that sum in a sandbox is worth. -/
noncomputable def Try.pinned : Pinned := { name := "ytkmphclmealkeab", sum := "c2fbc7ad2689fc478913262140267db315bb249acc39f424d40e75a69af9e6e1", checked := Try.checked }
namespace Rows
def none {H : Type} : Left H := { results := [], args := [] }

/-- 'laws.FnExactSetAdd': WHATEVER THE INPUT: true; the input reads as it did. -/
def fnExactSetAddSpec : ChangeSpec := { name := "fnExactSetAdd", fn := fun _ => fun
  | [d1, d2, d3] => { results := [.lit (.bool true)], args := [d1, d2, d3] }
  | _ => none }
def fnExactSetAddRow : OpenClaim := { program := "ytkmphclmealkeab", sum := "c2fbc7ad2689fc478913262140267db315bb249acc39f424d40e75a69af9e6e1", func := "loop.example/g00247/laws.FnExactSetAdd", spec := "fnExactSetAdd", apart := false }
def FnExactSetAddSaid : Prop := fnExactSetAddRow.holds Try.pinned (OpenSpec.ofChange fnExactSetAddSpec)

/-- ITS FALSE NEIGHBOUR: 'it returns false'. Refute it at one input. -/
def fnExactSetAddWrong : ChangeSpec := { name := "fnExactSetAdd", fn := fun _ => fun
  | [d1, d2, d3] => { results := [.lit (.bool false)], args := [d1, d2, d3] }
  | _ => none }
def FnExactSetAddWrongFalsely : Prop := fnExactSetAddRow.holds Try.pinned (OpenSpec.ofChange fnExactSetAddWrong)

/-- 'laws.FnExactSetDrop': WHATEVER THE INPUT: true; the input reads as it did. -/
def fnExactSetDropSpec : ChangeSpec := { name := "fnExactSetDrop", fn := fun _ => fun
  | [d1, d2, d3] => { results := [.lit (.bool true)], args := [d1, d2, d3] }
  | _ => none }
def fnExactSetDropRow : OpenClaim := { program := "ytkmphclmealkeab", sum := "c2fbc7ad2689fc478913262140267db315bb249acc39f424d40e75a69af9e6e1", func := "loop.example/g00247/laws.FnExactSetDrop", spec := "fnExactSetDrop", apart := false }
def FnExactSetDropSaid : Prop := fnExactSetDropRow.holds Try.pinned (OpenSpec.ofChange fnExactSetDropSpec)

/-- ITS FALSE NEIGHBOUR: 'it returns false'. Refute it at one input. -/
def fnExactSetDropWrong : ChangeSpec := { name := "fnExactSetDrop", fn := fun _ => fun
  | [d1, d2, d3] => { results := [.lit (.bool false)], args := [d1, d2, d3] }
  | _ => none }
def FnExactSetDropWrongFalsely : Prop := fnExactSetDropRow.holds Try.pinned (OpenSpec.ofChange fnExactSetDropWrong)

/-- 'laws.FnExactSetJoin': WHATEVER THE INPUT: true; the input reads as it did. -/
def fnExactSetJoinSpec : ChangeSpec := { name := "fnExactSetJoin", fn := fun _ => fun
  | [d1, d2] => { results := [.lit (.bool true)], args := [d1, d2] }
  | _ => none }
def fnExactSetJoinRow : OpenClaim := { program := "ytkmphclmealkeab", sum := "c2fbc7ad2689fc478913262140267db315bb249acc39f424d40e75a69af9e6e1", func := "loop.example/g00247/laws.FnExactSetJoin", spec := "fnExactSetJoin", unfollowed := true, recurses := true, apart := false }
def FnExactSetJoinSaid : Prop := fnExactSetJoinRow.holds Try.pinned (OpenSpec.ofChange fnExactSetJoinSpec)

/-- ITS FALSE NEIGHBOUR: 'it returns false'. Refute it at one input. -/
def fnExactSetJoinWrong : ChangeSpec := { name := "fnExactSetJoin", fn := fun _ => fun
  | [d1, d2] => { results := [.lit (.bool false)], args := [d1, d2] }
  | _ => none }
def FnExactSetJoinWrongFalsely : Prop := fnExactSetJoinRow.holds Try.pinned (OpenSpec.ofChange fnExactSetJoinWrong)

/-- 'laws.FnExactSetMeet': WHATEVER THE INPUT: true; the input reads as it did. -/
def fnExactSetMeetSpec : ChangeSpec := { name := "fnExactSetMeet", fn := fun _ => fun
  | [d1, d2] => { results := [.lit (.bool true)], args := [d1, d2] }
  | _ => none }
def fnExactSetMeetRow : OpenClaim := { program := "ytkmphclmealkeab", sum := "c2fbc7ad2689fc478913262140267db315bb249acc39f424d40e75a69af9e6e1", func := "loop.example/g00247/laws.FnExactSetMeet", spec := "fnExactSetMeet", apart := false }
def FnExactSetMeetSaid : Prop := fnExactSetMeetRow.holds Try.pinned (OpenSpec.ofChange fnExactSetMeetSpec)

/-- ITS FALSE NEIGHBOUR: 'it returns false'. Refute it at one input. -/
def fnExactSetMeetWrong : ChangeSpec := { name := "fnExactSetMeet", fn := fun _ => fun
  | [d1, d2] => { results := [.lit (.bool false)], args := [d1, d2] }
  | _ => none }
def FnExactSetMeetWrongFalsely : Prop := fnExactSetMeetRow.holds Try.pinned (OpenSpec.ofChange fnExactSetMeetWrong)

/-- 'laws.FnExactSetSize': WHATEVER THE INPUT: true; the input reads as it did. -/
def fnExactSetSizeSpec : ChangeSpec := { name := "fnExactSetSize", fn := fun _ => fun
  | [d] => { results := [.lit (.bool true)], args := [d] }
  | _ => none }
def fnExactSetSizeRow : OpenClaim := { program := "ytkmphclmealkeab", sum := "c2fbc7ad2689fc478913262140267db315bb249acc39f424d40e75a69af9e6e1", func := "loop.example/g00247/laws.FnExactSetSize", spec := "fnExactSetSize", apart := false }
def FnExactSetSizeSaid : Prop := fnExactSetSizeRow.holds Try.pinned (OpenSpec.ofChange fnExactSetSizeSpec)

/-- ITS FALSE NEIGHBOUR: 'it returns false'. Refute it at one input. -/
def fnExactSetSizeWrong : ChangeSpec := { name := "fnExactSetSize", fn := fun _ => fun
  | [d] => { results := [.lit (.bool false)], args := [d] }
  | _ => none }
def FnExactSetSizeWrongFalsely : Prop := fnExactSetSizeRow.holds Try.pinned (OpenSpec.ofChange fnExactSetSizeWrong)

/- THE SECOND FORM. 'bulk': how many values and letters a reading holds, each counted each time it is reached (what is shared counts as often as it is met; a slice's spare places count too). A statement '..UptoSaid' is the law's where the arguments, and the package variables that the reading takes, are together of bulk at most 1048576: NARROWER than '..Said'. Prove '..Said' where nothing that the law and all that it calls make is longer than what came in: it says more and counts as full. Else prove '..UptoSaid'. A law counts once. -/
mutual
def uptoBulk {H : Type} : DataW H → Nat
  | .lit (.string bytes) => bytes.length + 1
  | .lit _ => 1
  | .nil => 1
  | .ptr d => uptoBulk d + 1
  | .slice elems spare => uptoBulkAll elems + uptoBulkAll spare + 1
  | .agg parts => uptoBulkAll parts + 1
  | .iface _ d => uptoBulk d + 1
  | .map entries => uptoBulkEntries entries + 1
  | .held _ => 1
def uptoBulkAll {H : Type} : List (DataW H) → Nat
  | [] => 0
  | d :: r => uptoBulk d + uptoBulkAll r
def uptoBulkEntries {H : Type} : List (Lit × DataW H) → Nat
  | [] => 0
  | x :: r => uptoBulkEntry x + uptoBulkEntries r
def uptoBulkEntry {H : Type} : Lit × DataW H → Nat
  | (.string bytes, d) => bytes.length + uptoBulk d + 1
  | (_, d) => uptoBulk d + 1
 end
def uptoSmall : (H : Type) → List (DataW H) → Bool := fun _ ds => decide (uptoBulkAll ds ≤ 1048576)
def OpenSpec.upto (s : _root_.Go.ChangeSpec) : _root_.Go.OpenSpec := { _root_.Go.OpenSpec.ofChange s with cond := some uptoSmall }

/-- 'laws.FnExactSetAdd', WHERE WHAT IT READS IS OF BULK AT MOST 1048576: true; the input reads as it did. -/
def fnExactSetAddUptoRow : OpenClaim := { program := "ytkmphclmealkeab", sum := "c2fbc7ad2689fc478913262140267db315bb249acc39f424d40e75a69af9e6e1", func := "loop.example/g00247/laws.FnExactSetAdd", spec := "fnExactSetAdd", apart := false, narrowed := true }
def FnExactSetAddUptoSaid : Prop := fnExactSetAddUptoRow.holds Try.pinned (OpenSpec.upto fnExactSetAddSpec)

/-- 'laws.FnExactSetDrop', WHERE WHAT IT READS IS OF BULK AT MOST 1048576: true; the input reads as it did. -/
def fnExactSetDropUptoRow : OpenClaim := { program := "ytkmphclmealkeab", sum := "c2fbc7ad2689fc478913262140267db315bb249acc39f424d40e75a69af9e6e1", func := "loop.example/g00247/laws.FnExactSetDrop", spec := "fnExactSetDrop", apart := false, narrowed := true }
def FnExactSetDropUptoSaid : Prop := fnExactSetDropUptoRow.holds Try.pinned (OpenSpec.upto fnExactSetDropSpec)

/-- 'laws.FnExactSetJoin', WHERE WHAT IT READS IS OF BULK AT MOST 1048576: true; the input reads as it did. -/
def fnExactSetJoinUptoRow : OpenClaim := { program := "ytkmphclmealkeab", sum := "c2fbc7ad2689fc478913262140267db315bb249acc39f424d40e75a69af9e6e1", func := "loop.example/g00247/laws.FnExactSetJoin", spec := "fnExactSetJoin", unfollowed := true, recurses := true, apart := false, narrowed := true }
def FnExactSetJoinUptoSaid : Prop := fnExactSetJoinUptoRow.holds Try.pinned (OpenSpec.upto fnExactSetJoinSpec)

/-- 'laws.FnExactSetMeet', WHERE WHAT IT READS IS OF BULK AT MOST 1048576: true; the input reads as it did. -/
def fnExactSetMeetUptoRow : OpenClaim := { program := "ytkmphclmealkeab", sum := "c2fbc7ad2689fc478913262140267db315bb249acc39f424d40e75a69af9e6e1", func := "loop.example/g00247/laws.FnExactSetMeet", spec := "fnExactSetMeet", apart := false, narrowed := true }
def FnExactSetMeetUptoSaid : Prop := fnExactSetMeetUptoRow.holds Try.pinned (OpenSpec.upto fnExactSetMeetSpec)

/-- 'laws.FnExactSetSize', WHERE WHAT IT READS IS OF BULK AT MOST 1048576: true; the input reads as it did. -/
def fnExactSetSizeUptoRow : OpenClaim := { program := "ytkmphclmealkeab", sum := "c2fbc7ad2689fc478913262140267db315bb249acc39f424d40e75a69af9e6e1", func := "loop.example/g00247/laws.FnExactSetSize", spec := "fnExactSetSize", apart := false, narrowed := true }
def FnExactSetSizeUptoSaid : Prop := fnExactSetSizeUptoRow.holds Try.pinned (OpenSpec.upto fnExactSetSizeSpec)

end Rows
end Go.Proofs.Ytkmphclmealkeab
