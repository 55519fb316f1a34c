/-
  No cell of these rows narrows 'for every input' (looked for: loops, veiled, ifaces, maps, wideKeys, modest, calm, conditions, laid).
  DERIVED. THE GIVEN ROWS OF THIS SEAT. 2 by the template 'for every input the law returns true; each argument reads behind the call as it read before'; 0 by the template 'total and deterministic' (their statements: YtmaoadgpcejepaaTotals.lean).
  GIVEN WITH THE SEED: the statements are not yours to turn. If you find one false, say at which input.
  Laid BY PROGRAM, IN A SANDBOX (cutbox-rows.mjs): the forced cells as the released guide's own fill.sh prints them over the translation 2b25a2723f179165… (all of the seat's roots in one cut). By AI agents, Wed Nov 11 2026. No macro, syntax, notation, axiom, sorry.
-/
import Derived.Test.YtmaoadgpcejepaaChecked
import GoSem.Claim
import GoSem.ClaimJoined
import GoSem.ClaimMapViews
import Derived.JoinedTies
import Derived.KernelRfl
namespace Go.Proofs.Ytmaoadgpcejepaa
/- THE CELL 'sum', in the pinned program and in every row, IS THE sha256 OF THE DUMP (.gsa) THAT YtmaoadgpcejepaaProg.lean LOADS. Nothing in Lean hashes anything: it is a label: what it is worth is what the hold of that sum in a sandbox is worth. -/
noncomputable def Try.pinned : Pinned := { name := "ytmaoadgpcejepaa", sum := "2b25a2723f1791659892c2af6be84830d74156d186112e18c14387fcc14a410c", checked := Try.checked }
namespace Rows
def none {H : Type} : Left H := { results := [], args := [] }

/-- 'laws.FnExactFlagsOk': WHATEVER THE INPUT: true; the input reads as it did. -/
def fnExactFlagsOkSpec : ChangeSpec := { name := "fnExactFlagsOk", fn := fun _ => fun
  | [d] => { results := [.lit (.bool true)], args := [d] }
  | _ => none }
def fnExactFlagsOkRow : OpenClaim := { program := "ytmaoadgpcejepaa", sum := "2b25a2723f1791659892c2af6be84830d74156d186112e18c14387fcc14a410c", func := "loop.example/g00247/laws.FnExactFlagsOk", spec := "fnExactFlagsOk", apart := false }
def FnExactFlagsOkSaid : Prop := fnExactFlagsOkRow.holds Try.pinned (OpenSpec.ofChange fnExactFlagsOkSpec)

/-- ITS FALSE NEIGHBOUR: 'it returns false'. Refute it at one input. -/
def fnExactFlagsOkWrong : ChangeSpec := { name := "fnExactFlagsOk", fn := fun _ => fun
  | [d] => { results := [.lit (.bool false)], args := [d] }
  | _ => none }
def FnExactFlagsOkWrongFalsely : Prop := fnExactFlagsOkRow.holds Try.pinned (OpenSpec.ofChange fnExactFlagsOkWrong)

/-- 'laws.FnExactFlagsAfter': WHATEVER THE INPUT: true; the input reads as it did. -/
def fnExactFlagsAfterSpec : ChangeSpec := { name := "fnExactFlagsAfter", fn := fun _ => fun
  | [d1, d2, d3] => { results := [.lit (.bool true)], args := [d1, d2, d3] }
  | _ => none }
def fnExactFlagsAfterRow : OpenClaim := { program := "ytmaoadgpcejepaa", sum := "2b25a2723f1791659892c2af6be84830d74156d186112e18c14387fcc14a410c", func := "loop.example/g00247/laws.FnExactFlagsAfter", spec := "fnExactFlagsAfter", apart := false }
def FnExactFlagsAfterSaid : Prop := fnExactFlagsAfterRow.holds Try.pinned (OpenSpec.ofChange fnExactFlagsAfterSpec)

/-- ITS FALSE NEIGHBOUR: 'it returns false'. Refute it at one input. -/
def fnExactFlagsAfterWrong : ChangeSpec := { name := "fnExactFlagsAfter", fn := fun _ => fun
  | [d1, d2, d3] => { results := [.lit (.bool false)], args := [d1, d2, d3] }
  | _ => none }
def FnExactFlagsAfterWrongFalsely : Prop := fnExactFlagsAfterRow.holds Try.pinned (OpenSpec.ofChange fnExactFlagsAfterWrong)

/- THE SECOND FORM. 'bulk': how many values and letters a reading holds, each counted each time it is reached (what is shared counts as often as it is met; a slice's spare places count too). A statement '..UptoSaid' is the law's where the arguments, and the package variables that the reading takes, are together of bulk at most 1048576: NARROWER than '..Said'. Prove '..Said' where nothing that the law and all that it calls make is longer than what came in: it says more and counts as full. Else prove '..UptoSaid'. A law counts once. -/
mutual
def uptoBulk {H : Type} : DataW H → Nat
  | .lit (.string bytes) => bytes.length + 1
  | .lit _ => 1
  | .nil => 1
  | .ptr d => uptoBulk d + 1
  | .slice elems spare => uptoBulkAll elems + uptoBulkAll spare + 1
  | .agg parts => uptoBulkAll parts + 1
  | .iface _ d => uptoBulk d + 1
  | .map entries => uptoBulkEntries entries + 1
  | .held _ => 1
def uptoBulkAll {H : Type} : List (DataW H) → Nat
  | [] => 0
  | d :: r => uptoBulk d + uptoBulkAll r
def uptoBulkEntries {H : Type} : List (Lit × DataW H) → Nat
  | [] => 0
  | x :: r => uptoBulkEntry x + uptoBulkEntries r
def uptoBulkEntry {H : Type} : Lit × DataW H → Nat
  | (.string bytes, d) => bytes.length + uptoBulk d + 1
  | (_, d) => uptoBulk d + 1
 end
def uptoSmall : (H : Type) → List (DataW H) → Bool := fun _ ds => decide (uptoBulkAll ds ≤ 1048576)
def OpenSpec.upto (s : _root_.Go.ChangeSpec) : _root_.Go.OpenSpec := { _root_.Go.OpenSpec.ofChange s with cond := some uptoSmall }

/-- 'laws.FnExactFlagsOk', WHERE WHAT IT READS IS OF BULK AT MOST 1048576: true; the input reads as it did. -/
def fnExactFlagsOkUptoRow : OpenClaim := { program := "ytmaoadgpcejepaa", sum := "2b25a2723f1791659892c2af6be84830d74156d186112e18c14387fcc14a410c", func := "loop.example/g00247/laws.FnExactFlagsOk", spec := "fnExactFlagsOk", apart := false, narrowed := true }
def FnExactFlagsOkUptoSaid : Prop := fnExactFlagsOkUptoRow.holds Try.pinned (OpenSpec.upto fnExactFlagsOkSpec)

/-- 'laws.FnExactFlagsAfter', WHERE WHAT IT READS IS OF BULK AT MOST 1048576: true; the input reads as it did. -/
def fnExactFlagsAfterUptoRow : OpenClaim := { program := "ytmaoadgpcejepaa", sum := "2b25a2723f1791659892c2af6be84830d74156d186112e18c14387fcc14a410c", func := "loop.example/g00247/laws.FnExactFlagsAfter", spec := "fnExactFlagsAfter", apart := false, narrowed := true }
def FnExactFlagsAfterUptoSaid : Prop := fnExactFlagsAfterUptoRow.holds Try.pinned (OpenSpec.upto fnExactFlagsAfterSpec)

end Rows
end Go.Proofs.Ytmaoadgpcejepaa
