/-
 FnExactMoveMails: at every argument the law returns true: MoveMails answers as the specification, writes into no argument, and its answer owns its memory; the arguments read as they did; no condition (arguments of over 2^20 bytes are passed by the law itself).
-/
import Derived.Test.YtecognggnbopaacGreatRows
import Derived.Test.YtecognggnbopaacGreatStoreLawMoveMails
import Derived.Test.YtecognggnbopaacGreatMoveMailsS
import Derived.Test.YtecognggnbopaacGreatMoveMailsI
import Derived.Test.YtecognggnbopaacGreatStoreOpen
import Derived.WalkKit
import Derived.ProofKit
import Derived.OpenShut
import Derived.ShutString
import Derived.ChangeOld
import Derived.Below
import Derived.Carry
namespace Go.Proofs.YtecognggnbopaacGreat.fnExactMoveMails
open Go.ChangeShapes Go.WideShapes Go.ChangeAt Go.RowKit
open Go.ChangeMaps (open_string shut_string)
open Plain
set_option linter.unusedVariables false

theorem own : ownKnob Tryz.prog.godebug = none := by kernel_rfl
theorem laidOut : laidOutB Tryz.prog = true := by kernel_rfl

theorem walk (st0 : Sx) (sa0 : Option Addr) (sc0 : Nat) (s1 : ByteArray) (a2 : Option Addr) (cap2 : Nat) (l2 : List Rg) (s3 : ByteArray) (w : World) (h0 : ArgSt w.heap.size w sa0 st0) (m1 : s1.size ≤ maxLen) (m2 : l2.length ≤ maxLen) (h2 : ArgR w.heap.size w a2 l2) (m3 : s3.size ≤ maxLen) :
  Calls Tryz.prog 3 #[.agg #[.slice sa0 st0.boxes.length sc0, .int .i64 st0.valid], .string s1, .slice a2 l2.length cap2, .string s3] w fun e w' => e = .returned (.bool true) ∧ Below w.heap.size w w' := by
 exact FnExactMoveMails_walk st0 sa0 sc0 s1 s3 a2 cap2 l2 w h0 m2 h2 (fun hs => moveV_small st0 s1 s3 l2 hs) (fun v vs B B2 W hs z1 z2 hl h h2 _ => impl_MoveMails_any st0 s1 s3 l2 v vs B B2 W hs.fit z1 z2 hl h h2) (fun v vs B B2 W hs z1 z2 hl h h2 => spec_MoveMails_any st0 s1 s3 l2 v vs B B2 W hs.fit hl h h2)

set_option maxRecDepth 100000 in
theorem lifted (os : Os) (started : os.Started) (H : Type) (enc : TypeId × Value → H) :
  ReturnsInHanded {} Tryz.checked os 3 .any (Rows.fnExactMoveMailsSpec.pre6 enc Tryz.prog Tryz.f3 Rows.fnExactMoveMailsRow.domain false) (Rows.fnExactMoveMailsSpec.post enc Tryz.prog Tryz.f3 false true false false) := by
 refine returnsInHanded_of_change (C := Tryz.checked) own started (by kernel_rfl) Tryz.func3
  (ChangeSpec.witness6 (enc := enc) (C := Tryz.checked) false ⟨#[], #[.agg #[.slice none 0 0, .int .i64 0], .string ByteArray.empty, .slice none 0 0, .string ByteArray.empty], []⟩ 8 (by kernel_rfl) (by kernel_rfl) (by kernel_rfl) (by kernel_rfl)) ?_
 intro W base args ds gs before hval0 hW hcnd _
 have hval : ∀ (j : Nat) t v, Tryz.f3.params[j]? = some t → args[j]? = some v → Value.okWide Tryz.prog W .any base t v := hval0
 have hW' := hW
 obtain ⟨p, q, hA0, hV, rfl, hfz, hnd⟩ := hW
 have hA : DataW.TrodAll enc Tryz.prog W 0 (fun _ => true) true Tryz.f3.params.toList args.toList ds p := hA0
 rw [Tryz.params3] at hA hval
 obtain ⟨v0, vs0, d0, ds0, p0, q0, hargs, rfl, rfl, h0, r0⟩ := trodAll_cons hA
 obtain ⟨v1, vs1, d1, ds1, p1, q1, rfl, rfl, rfl, h1, r1⟩ := trodAll_cons r0
 obtain ⟨v2, vs2, d2, ds2, p2, q2, rfl, rfl, rfl, h2, r2⟩ := trodAll_cons r1
 obtain ⟨v3, vs3, d3, ds3, p3, q3, rfl, rfl, rfl, h3, r3⟩ := trodAll_cons r2
 obtain ⟨rfl, rfl, rfl⟩ := trodAll_nil r3
 obtain rfl : args = #[v0, v1, v2, v3] := by cases args; simp_all
 obtain ⟨rfl, rfl⟩ := trodVars_none hV
 have k0 := h0
 have lt0 : ∀ x ∈ p0, x.block < W.heap.size := by obtain ⟨m, hm⟩ := k0; exact DataW.trod_lt m _ _ _ hm
 have k1 := h1
 have lt1 : ∀ x ∈ p1, x.block < W.heap.size := by obtain ⟨m, hm⟩ := k1; exact DataW.trod_lt m _ _ _ hm
 have k2 := h2
 have lt2 : ∀ x ∈ p2, x.block < W.heap.size := by obtain ⟨m, hm⟩ := k2; exact DataW.trod_lt m _ _ _ hm
 have k3 := h3
 have lt3 : ∀ x ∈ p3, x.block < W.heap.size := by obtain ⟨m, hm⟩ := k3; exact DataW.trod_lt m _ _ _ hm
 obtain ⟨st0, sa0, sc0, rfl, g0⟩ := open_store (hval 0 24 v0 rfl rfl) h0
 obtain ⟨s1, rfl, _, _, m1⟩ := open_string Tryz.underlying9 (hval 1 9 v1 rfl rfl) h1
 obtain ⟨a2, cap2, l2, rfl, m2, g2⟩ := open_ranges (hval 2 25 v2 rfl rfl) h2
 obtain ⟨s3, rfl, _, _, m3⟩ := open_string Tryz.underlying9 (hval 3 9 v3 rfl rfl) h3
 clear hA0 hval0
 refine (walk st0 sa0 sc0 s1 a2 cap2 l2 s3 W g0 m1 m2 g2 m3).mono fun e W' ⟨he, bel⟩ => ?_
 subst he
 exact ⟨_, rfl, _, _, _, [], _, [], hW', trodAll_mk1 (shut_bool Tryz.underlying4 _), (trodAll_cons_mk (Below.trod laidOut (by kernel_rfl) (of_decide_eq_true (by kernel_rfl)) k0 bel lt0) (trodAll_cons_mk (Below.trod laidOut (by kernel_rfl) (of_decide_eq_true (by kernel_rfl)) k1 bel lt1) (trodAll_cons_mk (Below.trod laidOut (by kernel_rfl) (of_decide_eq_true (by kernel_rfl)) k2 bel lt2) (trodAll_cons_mk (Below.trod laidOut (by kernel_rfl) (of_decide_eq_true (by kernel_rfl)) k3 bel lt3) trodAll_mk0)))), rfl, bel.frame _, fun h => by cases h⟩

theorem over : Rows.fnExactMoveMailsRow.holds Tryz.pinned (OpenSpec.ofChange Rows.fnExactMoveMailsSpec) :=
 OpenClaim.holds_of_wide 3 Tryz.f3 rfl rfl rfl rfl rfl rfl rfl ⟨rfl, rfl, rfl, rfl, rfl⟩ rfl rfl rfl rfl rfl (by kernel_rfl) Tryz.func3 (by kernel_rfl)
  (of_decide_eq_true (by kernel_rfl)) (by unfold Func.isWrapper; first | (rw [if_pos (by decide +kernel)]; kernel_rfl) | (rw [if_neg (by decide +kernel)]; exact ⟨rfl, rfl⟩))
  (fun os started H enc _ => lifted os started H enc)

theorem proved : Rows.FnExactMoveMailsSaid := over
#print axioms proved
end Go.Proofs.YtecognggnbopaacGreat.fnExactMoveMails
