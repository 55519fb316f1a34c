/-
 FnExactMakeBox: at every argument the law returns true: MakeBox answers as the specification, writes into no argument, and its answer owns its memory; the arguments read as they did; no condition (arguments of over 2^20 bytes are passed by the law itself).
-/
import Derived.Test.YtanapiaobpoebaaRows
import Derived.Test.YtanapiaobpoebaaStoreLawMakeBox
import Derived.Test.YtanapiaobpoebaaMakeBoxS
import Derived.Test.YtanapiaobpoebaaMakeBoxI
import Derived.Test.YtanapiaobpoebaaMakeSmall
import Derived.Test.YtanapiaobpoebaaStoreOpen
import Derived.WalkKit
import Derived.ProofKit
import Derived.OpenShut
import Derived.ShutString
import Derived.ChangeOld
import Derived.Below
import Derived.Carry
namespace Go.Proofs.Ytanapiaobpoebaa.fnExactMakeBox
open Go.ChangeShapes Go.WideShapes Go.ChangeAt Go.RowKit
open Go.ChangeMaps (open_string shut_string)
open Plain
set_option linter.unusedVariables false

theorem own : ownKnob Try.prog.godebug = none := by kernel_rfl
theorem laidOut : laidOutB Try.prog = true := by kernel_rfl

theorem walk (st0 : Sx) (sa0 : Option Addr) (sc0 : Nat) (s1 : ByteArray) (w : World) (h0 : ArgSt w.heap.size w sa0 st0) (m1 : s1.size ≤ maxLen) :
  Calls Try.prog 3 #[.agg #[.slice sa0 st0.boxes.length sc0, .int .i64 st0.valid], .string s1] w fun e w' => e = .returned (.bool true) ∧ Below w.heap.size w w' := by
 exact FnExactMakeBox_walk st0 sa0 sc0 s1 w h0 (fun hs => makeV_small st0 s1 hs) (fun v B W hs z1 h _ => impl_MakeBox_any st0 s1 v B W hs.fit z1 h) (fun v B W hs z1 h => spec_MakeBox_any st0 s1 v B W hs.fit z1 h)

set_option maxRecDepth 100000 in
theorem lifted (os : Os) (started : os.Started) (H : Type) (enc : TypeId × Value → H) :
  ReturnsInHanded {} Try.checked os 3 .any (Rows.fnExactMakeBoxSpec.pre6 enc Try.prog Try.f3 Rows.fnExactMakeBoxRow.domain false) (Rows.fnExactMakeBoxSpec.post enc Try.prog Try.f3 false true false false) := by
 refine returnsInHanded_of_change (C := Try.checked) own started (by kernel_rfl) Try.func3
  (ChangeSpec.witness6 (enc := enc) (C := Try.checked) false ⟨#[], #[.agg #[.slice none 0 0, .int .i64 0], .string ByteArray.empty], []⟩ 8 (by kernel_rfl) (by kernel_rfl) (by kernel_rfl) (by kernel_rfl)) ?_
 intro W base args ds gs before hval0 hW hcnd _
 have hval : ∀ (j : Nat) t v, Try.f3.params[j]? = some t → args[j]? = some v → Value.okWide Try.prog W .any base t v := hval0
 have hW' := hW
 obtain ⟨p, q, hA0, hV, rfl, hfz, hnd⟩ := hW
 have hA : DataW.TrodAll enc Try.prog W 0 (fun _ => true) true Try.f3.params.toList args.toList ds p := hA0
 rw [Try.params3] at hA hval
 obtain ⟨v0, vs0, d0, ds0, p0, q0, hargs, rfl, rfl, h0, r0⟩ := trodAll_cons hA
 obtain ⟨v1, vs1, d1, ds1, p1, q1, rfl, rfl, rfl, h1, r1⟩ := trodAll_cons r0
 obtain ⟨rfl, rfl, rfl⟩ := trodAll_nil r1
 obtain rfl : args = #[v0, v1] := by cases args; simp_all
 obtain ⟨rfl, rfl⟩ := trodVars_none hV
 have k0 := h0
 have lt0 : ∀ x ∈ p0, x.block < W.heap.size := by obtain ⟨m, hm⟩ := k0; exact DataW.trod_lt m _ _ _ hm
 have k1 := h1
 have lt1 : ∀ x ∈ p1, x.block < W.heap.size := by obtain ⟨m, hm⟩ := k1; exact DataW.trod_lt m _ _ _ hm
 obtain ⟨st0, sa0, sc0, rfl, g0⟩ := open_store (hval 0 24 v0 rfl rfl) h0
 obtain ⟨s1, rfl, _, _, m1⟩ := open_string Try.underlying9 (hval 1 9 v1 rfl rfl) h1
 clear hA0 hval0
 refine (walk st0 sa0 sc0 s1 W g0 m1).mono fun e W' ⟨he, bel⟩ => ?_
 subst he
 exact ⟨_, rfl, _, _, _, [], _, [], hW', trodAll_mk1 (shut_bool Try.underlying4 _), (trodAll_cons_mk (Below.trod laidOut (by kernel_rfl) (of_decide_eq_true (by kernel_rfl)) k0 bel lt0) (trodAll_cons_mk (Below.trod laidOut (by kernel_rfl) (of_decide_eq_true (by kernel_rfl)) k1 bel lt1) trodAll_mk0)), rfl, bel.frame _, fun h => by cases h⟩

theorem over : Rows.fnExactMakeBoxRow.holds Try.pinned (OpenSpec.ofChange Rows.fnExactMakeBoxSpec) :=
 OpenClaim.holds_of_wide 3 Try.f3 rfl rfl rfl rfl rfl rfl rfl ⟨rfl, rfl, rfl, rfl, rfl⟩ rfl rfl rfl rfl rfl (by kernel_rfl) Try.func3 (by kernel_rfl)
  (of_decide_eq_true (by kernel_rfl)) (by unfold Func.isWrapper; first | (rw [if_pos (by decide +kernel)]; kernel_rfl) | (rw [if_neg (by decide +kernel)]; exact ⟨rfl, rfl⟩))
  (fun os started H enc _ => lifted os started H enc)

theorem proved : Rows.FnExactMakeBoxSaid := over
#print axioms proved
end Go.Proofs.Ytanapiaobpoebaa.fnExactMakeBox
