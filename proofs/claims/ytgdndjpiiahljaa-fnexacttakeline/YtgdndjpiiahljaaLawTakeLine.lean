/-
 FnExactTakeLine: at every list and every line the law returns true: TakeLine answers as the specification, its answer shares no memory with what came in, nothing is written into an argument, and told again it answers the same; no condition (arguments of over 2^20 elements are passed by the law itself).
-/
import Derived.Test.YtgdndjpiiahljaaRows
import Derived.Test.YtgdndjpiiahljaaTkLaw
import Derived.WalkKit
import Derived.ProofKit
import Derived.OpenShut
import Derived.ShutString
import Derived.ChangeOld
import Derived.Below
import Derived.Carry
namespace Go.Proofs.Ytgdndjpiiahljaa.fnExactTakeLine
open Go.ChangeShapes Go.WideShapes Go.ChangeAt Go.RowKit
open Go.ChangeMaps (open_string shut_string)
open Plain
set_option linter.unusedVariables false

theorem own : ownKnob Try.prog.godebug = none := by kernel_rfl
theorem laidOut : laidOutB Try.prog = true := by kernel_rfl

theorem walk (a0 : Option Addr) (cap0 : Nat) (l0 : List Sn) (e1 : Ln) (ea1 : Option Addr) (ec1 : Nat) (w : World) (m0 : l0.length ≤ maxLen) (h0 : ArgSn w.heap.size w a0 l0) (h1 : ArgLn w.heap.size w ea1 e1) :
  Calls Try.prog 5 #[.slice a0 l0.length cap0, .agg #[.int .i64 e1.kind, .int .i64 e1.num, .int .i64 e1.uid, .int .i64 e1.flags, .int .i64 e1.mod, .slice ea1 e1.set.length ec1, .bool e1.all]] w fun e w' => e = .returned (.bool true) ∧ Below w.heap.size w w' := by
 exact FnExactTakeLine_walk a0 cap0 l0 e1 ea1 ec1 w m0 h0 h1

set_option maxRecDepth 100000 in
theorem lifted (os : Os) (started : os.Started) (H : Type) (enc : TypeId × Value → H) :
  ReturnsInHanded {} Try.checked os 5 .any (Rows.fnExactTakeLineSpec.pre6 enc Try.prog Try.f5 Rows.fnExactTakeLineRow.domain false) (Rows.fnExactTakeLineSpec.post enc Try.prog Try.f5 false true false false) := by
 refine returnsInHanded_of_change (C := Try.checked) own started (by kernel_rfl) Try.func5
  (ChangeSpec.witness6 (enc := enc) (C := Try.checked) false ⟨#[], #[.slice none 0 0, .agg #[.int .i64 0, .int .i64 0, .int .i64 0, .int .i64 0, .int .i64 0, .slice none 0 0, .bool false]], []⟩ 8 (by kernel_rfl) (by kernel_rfl) (by kernel_rfl) (by kernel_rfl)) ?_
 intro W base args ds gs before hval0 hW hcnd _
 have hval : ∀ (j : Nat) t v, Try.f5.params[j]? = some t → args[j]? = some v → Value.okWide Try.prog W .any base t v := hval0
 have hW' := hW
 obtain ⟨p, q, hA0, hV, rfl, hfz, hnd⟩ := hW
 have hA : DataW.TrodAll enc Try.prog W 0 (fun _ => true) true Try.f5.params.toList args.toList ds p := hA0
 rw [Try.params5] at hA hval
 obtain ⟨v0, vs0, d0, ds0, p0, q0, hargs, rfl, rfl, h0, r0⟩ := trodAll_cons hA
 obtain ⟨v1, vs1, d1, ds1, p1, q1, rfl, rfl, rfl, h1, r1⟩ := trodAll_cons r0
 obtain ⟨rfl, rfl, rfl⟩ := trodAll_nil r1
 obtain rfl : args = #[v0, v1] := by cases args; simp_all
 obtain ⟨rfl, rfl⟩ := trodVars_none hV
 have k0 := h0
 have lt0 : ∀ x ∈ p0, x.block < W.heap.size := by obtain ⟨m, hm⟩ := k0; exact DataW.trod_lt m _ _ _ hm
 have k1 := h1
 have lt1 : ∀ x ∈ p1, x.block < W.heap.size := by obtain ⟨m, hm⟩ := k1; exact DataW.trod_lt m _ _ _ hm
 obtain ⟨a0, cap0, l0, rfl, m0, g0⟩ := open_seens (hval 0 44 v0 rfl rfl) h0
 obtain ⟨e1, ea1, ec1, rfl, g1⟩ := open_line (hval 1 38 v1 rfl rfl) h1
 clear hA0 hval0
 refine (walk a0 cap0 l0 e1 ea1 ec1 W m0 g0 g1).mono fun e W' ⟨he, bel⟩ => ?_
 subst he
 exact ⟨_, rfl, _, _, _, [], _, [], hW', trodAll_mk1 (shut_bool Try.underlying4 _), (trodAll_cons_mk (Below.trod laidOut (by kernel_rfl) (of_decide_eq_true (by kernel_rfl)) k0 bel lt0) (trodAll_cons_mk (Below.trod laidOut (by kernel_rfl) (of_decide_eq_true (by kernel_rfl)) k1 bel lt1) trodAll_mk0)), rfl, bel.frame _, fun h => by cases h⟩

theorem over : Rows.fnExactTakeLineRow.holds Try.pinned (OpenSpec.ofChange Rows.fnExactTakeLineSpec) :=
 OpenClaim.holds_of_wide 5 Try.f5 rfl rfl rfl rfl rfl rfl rfl ⟨rfl, rfl, rfl, rfl, rfl⟩ rfl rfl rfl rfl rfl (by kernel_rfl) Try.func5 (by kernel_rfl)
  (of_decide_eq_true (by kernel_rfl)) (by unfold Func.isWrapper; first | (rw [if_pos (by decide +kernel)]; kernel_rfl) | (rw [if_neg (by decide +kernel)]; exact ⟨rfl, rfl⟩))
  (fun os started H enc _ => lifted os started H enc)

theorem proved : Rows.FnExactTakeLineSaid := over
#print axioms proved
end Go.Proofs.Ytgdndjpiiahljaa.fnExactTakeLine
