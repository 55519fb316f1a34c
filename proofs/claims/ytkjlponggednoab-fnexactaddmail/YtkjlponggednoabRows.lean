/-
  No cell of these rows narrows 'for every input' (looked for: loops, veiled, ifaces, maps, wideKeys, modest, calm, conditions, laid).
  DERIVED. THE GIVEN ROWS OF THIS SEAT. 4 by the template 'for every input the law returns true; each argument reads behind the call as it read before'; 0 by the template 'total and deterministic' (their statements: YtkjlponggednoabTotals.lean).
  GIVEN WITH THE SEED: the statements are not yours to turn. If you find one false, say at which input.
  Laid BY PROGRAM, IN A SANDBOX (cutbox-rows.mjs): the forced cells as the released guide's own fill.sh prints them over the translation c2e2bfbdd962aaf1… (all of the seat's roots in one cut). By AI agents, Wed Nov 11 2026. No macro, syntax, notation, axiom, sorry.
-/
import Derived.Test.YtkjlponggednoabChecked
import GoSem.Claim
import GoSem.ClaimJoined
import GoSem.ClaimMapViews
import Derived.JoinedTies
import Derived.KernelRfl
namespace Go.Proofs.Ytkjlponggednoab
/- THE CELL 'sum', in the pinned program and in every row, IS THE sha256 OF THE DUMP (.gsa) THAT YtkjlponggednoabProg.lean LOADS. Nothing in Lean hashes anything: it is a label: what it is worth is what the hold of that sum in a sandbox is worth. -/
noncomputable def Try.pinned : Pinned := { name := "ytkjlponggednoab", sum := "c2e2bfbdd962aaf138e0cf5ecc3d5d4bf6a713e63be35b86cc1593d70ba06d52", checked := Try.checked }
namespace Rows
def none {H : Type} : Left H := { results := [], args := [] }

/-- 'laws.FnExactBoxName': WHATEVER THE INPUT: true; the input reads as it did. -/
def fnExactBoxNameSpec : ChangeSpec := { name := "fnExactBoxName", fn := fun _ => fun
  | [d] => { results := [.lit (.bool true)], args := [d] }
  | _ => none }
def fnExactBoxNameRow : OpenClaim := { program := "ytkjlponggednoab", sum := "c2e2bfbdd962aaf138e0cf5ecc3d5d4bf6a713e63be35b86cc1593d70ba06d52", func := "loop.example/g00247/laws.FnExactBoxName", spec := "fnExactBoxName", apart := false }
def FnExactBoxNameSaid : Prop := fnExactBoxNameRow.holds Try.pinned (OpenSpec.ofChange fnExactBoxNameSpec)

/-- ITS FALSE NEIGHBOUR: 'it returns false'. Refute it at one input. -/
def fnExactBoxNameWrong : ChangeSpec := { name := "fnExactBoxName", fn := fun _ => fun
  | [d] => { results := [.lit (.bool false)], args := [d] }
  | _ => none }
def FnExactBoxNameWrongFalsely : Prop := fnExactBoxNameRow.holds Try.pinned (OpenSpec.ofChange fnExactBoxNameWrong)

/-- 'laws.FnExactBoxOk': WHATEVER THE INPUT: true; the input reads as it did. -/
def fnExactBoxOkSpec : ChangeSpec := { name := "fnExactBoxOk", fn := fun _ => fun
  | [d] => { results := [.lit (.bool true)], args := [d] }
  | _ => none }
def fnExactBoxOkRow : OpenClaim := { program := "ytkjlponggednoab", sum := "c2e2bfbdd962aaf138e0cf5ecc3d5d4bf6a713e63be35b86cc1593d70ba06d52", func := "loop.example/g00247/laws.FnExactBoxOk", spec := "fnExactBoxOk", recurses := true, apart := false }
def FnExactBoxOkSaid : Prop := fnExactBoxOkRow.holds Try.pinned (OpenSpec.ofChange fnExactBoxOkSpec)

/-- ITS FALSE NEIGHBOUR: 'it returns false'. Refute it at one input. -/
def fnExactBoxOkWrong : ChangeSpec := { name := "fnExactBoxOk", fn := fun _ => fun
  | [d] => { results := [.lit (.bool false)], args := [d] }
  | _ => none }
def FnExactBoxOkWrongFalsely : Prop := fnExactBoxOkRow.holds Try.pinned (OpenSpec.ofChange fnExactBoxOkWrong)

/-- 'laws.FnExactBoxNew': WHATEVER THE INPUT: true; the input reads as it did. -/
def fnExactBoxNewSpec : ChangeSpec := { name := "fnExactBoxNew", fn := fun _ => fun
  | [d1, d2] => { results := [.lit (.bool true)], args := [d1, d2] }
  | _ => none }
def fnExactBoxNewRow : OpenClaim := { program := "ytkjlponggednoab", sum := "c2e2bfbdd962aaf138e0cf5ecc3d5d4bf6a713e63be35b86cc1593d70ba06d52", func := "loop.example/g00247/laws.FnExactBoxNew", spec := "fnExactBoxNew", recurses := true, apart := false }
def FnExactBoxNewSaid : Prop := fnExactBoxNewRow.holds Try.pinned (OpenSpec.ofChange fnExactBoxNewSpec)

/-- ITS FALSE NEIGHBOUR: 'it returns false'. Refute it at one input. -/
def fnExactBoxNewWrong : ChangeSpec := { name := "fnExactBoxNew", fn := fun _ => fun
  | [d1, d2] => { results := [.lit (.bool false)], args := [d1, d2] }
  | _ => none }
def FnExactBoxNewWrongFalsely : Prop := fnExactBoxNewRow.holds Try.pinned (OpenSpec.ofChange fnExactBoxNewWrong)

/-- 'laws.FnExactAddMail': WHATEVER THE INPUT: true; the input reads as it did. -/
def fnExactAddMailSpec : ChangeSpec := { name := "fnExactAddMail", fn := fun _ => fun
  | [d1, d2, d3] => { results := [.lit (.bool true)], args := [d1, d2, d3] }
  | _ => none }
def fnExactAddMailRow : OpenClaim := { program := "ytkjlponggednoab", sum := "c2e2bfbdd962aaf138e0cf5ecc3d5d4bf6a713e63be35b86cc1593d70ba06d52", func := "loop.example/g00247/laws.FnExactAddMail", spec := "fnExactAddMail", recurses := true, apart := false }
def FnExactAddMailSaid : Prop := fnExactAddMailRow.holds Try.pinned (OpenSpec.ofChange fnExactAddMailSpec)

/-- ITS FALSE NEIGHBOUR: 'it returns false'. Refute it at one input. -/
def fnExactAddMailWrong : ChangeSpec := { name := "fnExactAddMail", fn := fun _ => fun
  | [d1, d2, d3] => { results := [.lit (.bool false)], args := [d1, d2, d3] }
  | _ => none }
def FnExactAddMailWrongFalsely : Prop := fnExactAddMailRow.holds Try.pinned (OpenSpec.ofChange fnExactAddMailWrong)

/- THE SECOND FORM. 'bulk': how many values and letters a reading holds, each counted each time it is reached (what is shared counts as often as it is met; a slice's spare places count too). A statement '..UptoSaid' is the law's where the arguments, and the package variables that the reading takes, are together of bulk at most 1048576: NARROWER than '..Said'. Prove '..Said' where nothing that the law and all that it calls make is longer than what came in: it says more and counts as full. Else prove '..UptoSaid'. A law counts once. -/
mutual
def uptoBulk {H : Type} : DataW H → Nat
  | .lit (.string bytes) => bytes.length + 1
  | .lit _ => 1
  | .nil => 1
  | .ptr d => uptoBulk d + 1
  | .slice elems spare => uptoBulkAll elems + uptoBulkAll spare + 1
  | .agg parts => uptoBulkAll parts + 1
  | .iface _ d => uptoBulk d + 1
  | .map entries => uptoBulkEntries entries + 1
  | .held _ => 1
def uptoBulkAll {H : Type} : List (DataW H) → Nat
  | [] => 0
  | d :: r => uptoBulk d + uptoBulkAll r
def uptoBulkEntries {H : Type} : List (Lit × DataW H) → Nat
  | [] => 0
  | x :: r => uptoBulkEntry x + uptoBulkEntries r
def uptoBulkEntry {H : Type} : Lit × DataW H → Nat
  | (.string bytes, d) => bytes.length + uptoBulk d + 1
  | (_, d) => uptoBulk d + 1
 end
def uptoSmall : (H : Type) → List (DataW H) → Bool := fun _ ds => decide (uptoBulkAll ds ≤ 1048576)
def OpenSpec.upto (s : _root_.Go.ChangeSpec) : _root_.Go.OpenSpec := { _root_.Go.OpenSpec.ofChange s with cond := some uptoSmall }

/-- 'laws.FnExactBoxName', WHERE WHAT IT READS IS OF BULK AT MOST 1048576: true; the input reads as it did. -/
def fnExactBoxNameUptoRow : OpenClaim := { program := "ytkjlponggednoab", sum := "c2e2bfbdd962aaf138e0cf5ecc3d5d4bf6a713e63be35b86cc1593d70ba06d52", func := "loop.example/g00247/laws.FnExactBoxName", spec := "fnExactBoxName", apart := false, narrowed := true }
def FnExactBoxNameUptoSaid : Prop := fnExactBoxNameUptoRow.holds Try.pinned (OpenSpec.upto fnExactBoxNameSpec)

/-- 'laws.FnExactBoxOk', WHERE WHAT IT READS IS OF BULK AT MOST 1048576: true; the input reads as it did. -/
def fnExactBoxOkUptoRow : OpenClaim := { program := "ytkjlponggednoab", sum := "c2e2bfbdd962aaf138e0cf5ecc3d5d4bf6a713e63be35b86cc1593d70ba06d52", func := "loop.example/g00247/laws.FnExactBoxOk", spec := "fnExactBoxOk", recurses := true, apart := false, narrowed := true }
def FnExactBoxOkUptoSaid : Prop := fnExactBoxOkUptoRow.holds Try.pinned (OpenSpec.upto fnExactBoxOkSpec)

/-- 'laws.FnExactBoxNew', WHERE WHAT IT READS IS OF BULK AT MOST 1048576: true; the input reads as it did. -/
def fnExactBoxNewUptoRow : OpenClaim := { program := "ytkjlponggednoab", sum := "c2e2bfbdd962aaf138e0cf5ecc3d5d4bf6a713e63be35b86cc1593d70ba06d52", func := "loop.example/g00247/laws.FnExactBoxNew", spec := "fnExactBoxNew", recurses := true, apart := false, narrowed := true }
def FnExactBoxNewUptoSaid : Prop := fnExactBoxNewUptoRow.holds Try.pinned (OpenSpec.upto fnExactBoxNewSpec)

/-- 'laws.FnExactAddMail', WHERE WHAT IT READS IS OF BULK AT MOST 1048576: true; the input reads as it did. -/
def fnExactAddMailUptoRow : OpenClaim := { program := "ytkjlponggednoab", sum := "c2e2bfbdd962aaf138e0cf5ecc3d5d4bf6a713e63be35b86cc1593d70ba06d52", func := "loop.example/g00247/laws.FnExactAddMail", spec := "fnExactAddMail", recurses := true, apart := false, narrowed := true }
def FnExactAddMailUptoSaid : Prop := fnExactAddMailUptoRow.holds Try.pinned (OpenSpec.upto fnExactAddMailSpec)

end Rows
end Go.Proofs.Ytkjlponggednoab
