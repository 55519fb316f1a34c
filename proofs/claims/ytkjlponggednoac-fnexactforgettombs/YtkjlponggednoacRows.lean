/-
  No cell of these rows narrows 'for every input' (looked for: loops, veiled, ifaces, maps, wideKeys, modest, calm, conditions, laid).
  DERIVED. THE GIVEN ROWS OF THIS SEAT. 3 by the template 'for every input the law returns true; each argument reads behind the call as it read before'; 0 by the template 'total and deterministic' (their statements: YtkjlponggednoacTotals.lean).
  GIVEN WITH THE SEED: the statements are not yours to turn. If you find one false, say at which input.
  Laid BY PROGRAM, IN A SANDBOX (cutbox-rows.mjs): the forced cells as the released guide's own fill.sh prints them over the translation 37b8aa6b8b7da952… (all of the seat's roots in one cut). By AI agents, Wed Nov 11 2026. No macro, syntax, notation, axiom, sorry.
-/
import Derived.Test.YtkjlponggednoacChecked
import GoSem.Claim
import GoSem.ClaimJoined
import GoSem.ClaimMapViews
import Derived.JoinedTies
import Derived.KernelRfl
namespace Go.Proofs.Ytkjlponggednoac
/- THE CELL 'sum', in the pinned program and in every row, IS THE sha256 OF THE DUMP (.gsa) THAT YtkjlponggednoacProg.lean LOADS. Nothing in Lean hashes anything: it is a label: what it is worth is what the hold of that sum in a sandbox is worth. -/
noncomputable def Try.pinned : Pinned := { name := "ytkjlponggednoac", sum := "37b8aa6b8b7da952f496a8810de8aab479579d3b3724f658c2fa9538bd9e174f", checked := Try.checked }
namespace Rows
def none {H : Type} : Left H := { results := [], args := [] }

/-- 'laws.FnExactChanged': WHATEVER THE INPUT: true; the input reads as it did. -/
def fnExactChangedSpec : ChangeSpec := { name := "fnExactChanged", fn := fun _ => fun
  | [d1, d2] => { results := [.lit (.bool true)], args := [d1, d2] }
  | _ => none }
def fnExactChangedRow : OpenClaim := { program := "ytkjlponggednoac", sum := "37b8aa6b8b7da952f496a8810de8aab479579d3b3724f658c2fa9538bd9e174f", func := "loop.example/g00247/laws.FnExactChanged", spec := "fnExactChanged", apart := false }
def FnExactChangedSaid : Prop := fnExactChangedRow.holds Try.pinned (OpenSpec.ofChange fnExactChangedSpec)

/-- ITS FALSE NEIGHBOUR: 'it returns false'. Refute it at one input. -/
def fnExactChangedWrong : ChangeSpec := { name := "fnExactChanged", fn := fun _ => fun
  | [d1, d2] => { results := [.lit (.bool false)], args := [d1, d2] }
  | _ => none }
def FnExactChangedWrongFalsely : Prop := fnExactChangedRow.holds Try.pinned (OpenSpec.ofChange fnExactChangedWrong)

/-- 'laws.FnExactVanished': WHATEVER THE INPUT: true; the input reads as it did. -/
def fnExactVanishedSpec : ChangeSpec := { name := "fnExactVanished", fn := fun _ => fun
  | [d1, d2] => { results := [.lit (.bool true)], args := [d1, d2] }
  | _ => none }
def fnExactVanishedRow : OpenClaim := { program := "ytkjlponggednoac", sum := "37b8aa6b8b7da952f496a8810de8aab479579d3b3724f658c2fa9538bd9e174f", func := "loop.example/g00247/laws.FnExactVanished", spec := "fnExactVanished", unfollowed := true, recurses := true, apart := false }
def FnExactVanishedSaid : Prop := fnExactVanishedRow.holds Try.pinned (OpenSpec.ofChange fnExactVanishedSpec)

/-- ITS FALSE NEIGHBOUR: 'it returns false'. Refute it at one input. -/
def fnExactVanishedWrong : ChangeSpec := { name := "fnExactVanished", fn := fun _ => fun
  | [d1, d2] => { results := [.lit (.bool false)], args := [d1, d2] }
  | _ => none }
def FnExactVanishedWrongFalsely : Prop := fnExactVanishedRow.holds Try.pinned (OpenSpec.ofChange fnExactVanishedWrong)

/-- 'laws.FnExactForgetTombs': WHATEVER THE INPUT: true; the input reads as it did. -/
def fnExactForgetTombsSpec : ChangeSpec := { name := "fnExactForgetTombs", fn := fun _ => fun
  | [d1, d2] => { results := [.lit (.bool true)], args := [d1, d2] }
  | _ => none }
def fnExactForgetTombsRow : OpenClaim := { program := "ytkjlponggednoac", sum := "37b8aa6b8b7da952f496a8810de8aab479579d3b3724f658c2fa9538bd9e174f", func := "loop.example/g00247/laws.FnExactForgetTombs", spec := "fnExactForgetTombs", unfollowed := true, recurses := true, apart := false }
def FnExactForgetTombsSaid : Prop := fnExactForgetTombsRow.holds Try.pinned (OpenSpec.ofChange fnExactForgetTombsSpec)

/-- ITS FALSE NEIGHBOUR: 'it returns false'. Refute it at one input. -/
def fnExactForgetTombsWrong : ChangeSpec := { name := "fnExactForgetTombs", fn := fun _ => fun
  | [d1, d2] => { results := [.lit (.bool false)], args := [d1, d2] }
  | _ => none }
def FnExactForgetTombsWrongFalsely : Prop := fnExactForgetTombsRow.holds Try.pinned (OpenSpec.ofChange fnExactForgetTombsWrong)

/- THE SECOND FORM. 'bulk': how many values and letters a reading holds, each counted each time it is reached (what is shared counts as often as it is met; a slice's spare places count too). A statement '..UptoSaid' is the law's where the arguments, and the package variables that the reading takes, are together of bulk at most 1048576: NARROWER than '..Said'. Prove '..Said' where nothing that the law and all that it calls make is longer than what came in: it says more and counts as full. Else prove '..UptoSaid'. A law counts once. -/
mutual
def uptoBulk {H : Type} : DataW H → Nat
  | .lit (.string bytes) => bytes.length + 1
  | .lit _ => 1
  | .nil => 1
  | .ptr d => uptoBulk d + 1
  | .slice elems spare => uptoBulkAll elems + uptoBulkAll spare + 1
  | .agg parts => uptoBulkAll parts + 1
  | .iface _ d => uptoBulk d + 1
  | .map entries => uptoBulkEntries entries + 1
  | .held _ => 1
def uptoBulkAll {H : Type} : List (DataW H) → Nat
  | [] => 0
  | d :: r => uptoBulk d + uptoBulkAll r
def uptoBulkEntries {H : Type} : List (Lit × DataW H) → Nat
  | [] => 0
  | x :: r => uptoBulkEntry x + uptoBulkEntries r
def uptoBulkEntry {H : Type} : Lit × DataW H → Nat
  | (.string bytes, d) => bytes.length + uptoBulk d + 1
  | (_, d) => uptoBulk d + 1
 end
def uptoSmall : (H : Type) → List (DataW H) → Bool := fun _ ds => decide (uptoBulkAll ds ≤ 1048576)
def OpenSpec.upto (s : _root_.Go.ChangeSpec) : _root_.Go.OpenSpec := { _root_.Go.OpenSpec.ofChange s with cond := some uptoSmall }

/-- 'laws.FnExactChanged', WHERE WHAT IT READS IS OF BULK AT MOST 1048576: true; the input reads as it did. -/
def fnExactChangedUptoRow : OpenClaim := { program := "ytkjlponggednoac", sum := "37b8aa6b8b7da952f496a8810de8aab479579d3b3724f658c2fa9538bd9e174f", func := "loop.example/g00247/laws.FnExactChanged", spec := "fnExactChanged", apart := false, narrowed := true }
def FnExactChangedUptoSaid : Prop := fnExactChangedUptoRow.holds Try.pinned (OpenSpec.upto fnExactChangedSpec)

/-- 'laws.FnExactVanished', WHERE WHAT IT READS IS OF BULK AT MOST 1048576: true; the input reads as it did. -/
def fnExactVanishedUptoRow : OpenClaim := { program := "ytkjlponggednoac", sum := "37b8aa6b8b7da952f496a8810de8aab479579d3b3724f658c2fa9538bd9e174f", func := "loop.example/g00247/laws.FnExactVanished", spec := "fnExactVanished", unfollowed := true, recurses := true, apart := false, narrowed := true }
def FnExactVanishedUptoSaid : Prop := fnExactVanishedUptoRow.holds Try.pinned (OpenSpec.upto fnExactVanishedSpec)

/-- 'laws.FnExactForgetTombs', WHERE WHAT IT READS IS OF BULK AT MOST 1048576: true; the input reads as it did. -/
def fnExactForgetTombsUptoRow : OpenClaim := { program := "ytkjlponggednoac", sum := "37b8aa6b8b7da952f496a8810de8aab479579d3b3724f658c2fa9538bd9e174f", func := "loop.example/g00247/laws.FnExactForgetTombs", spec := "fnExactForgetTombs", unfollowed := true, recurses := true, apart := false, narrowed := true }
def FnExactForgetTombsUptoSaid : Prop := fnExactForgetTombsUptoRow.holds Try.pinned (OpenSpec.upto fnExactForgetTombsSpec)

end Rows
end Go.Proofs.Ytkjlponggednoac
