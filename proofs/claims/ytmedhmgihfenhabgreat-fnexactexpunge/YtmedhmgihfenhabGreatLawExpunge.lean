/-
  FnExactExpunge: at every input the law returns true: the program's Expunge answers as the specification's, every field and every range of it, it writes into no argument and its answer owns its memory; no condition (an input of over 2^20 bytes, mails or ranges is passed by the law itself).
-/
import Derived.Test.YtmedhmgihfenhabGreatRows
import Derived.Test.YtmedhmgihfenhabGreatBoxLaws4
import Derived.Test.YtmedhmgihfenhabGreatExpungeI
import Derived.Test.YtmedhmgihfenhabGreatExpungeS
import Derived.WalkKit
import Derived.ProofKit
import Derived.OpenShut
import Derived.ShutString
import Derived.ChangeOld
import Derived.Below
import Derived.Carry
namespace Go.Proofs.YtmedhmgihfenhabGreat.fnExactExpunge
open Go.ChangeShapes Go.WideShapes Go.ChangeAt Go.RowKit
open Go.ChangeMaps (open_string shut_string)
open Plain
set_option linter.unusedVariables false

theorem own : ownKnob Tryz.prog.godebug = none := by kernel_rfl
theorem laidOut : laidOutB Tryz.prog = true := by kernel_rfl

theorem walk (b0 : Bx) (am0 at0 : Option Addr) (cm0 ct0 : Nat) (a1 : Option Addr) (cap1 : Nat) (l1 : List Rg) (w : World) (h0 : ArgBx w.heap.size w am0 at0 b0) (m1 : l1.length ≤ maxLen) (h1 : ArgR w.heap.size w a1 l1) :
    Calls Tryz.prog 7 #[.agg #[.string b0.name, .int .i64 b0.valid, .int .i64 b0.next, .int .i64 b0.mod, .slice am0 b0.mails.length cm0, .slice at0 b0.tombs.length ct0, .int .i64 b0.hor], .slice a1 l1.length cap1] w fun e w' => e = .returned (.bool true) ∧ Below w.heap.size w w' := by
  exact FnExactExpunge_walk b0 am0 at0 cm0 ct0 a1 cap1 l1 w h0 m1 h1 (fun m t vs B B2 W hs hl ho hr hb => impl_Expunge_any b0 m t B l1 vs W hs.fit hl hr.wide ho) (fun m t vs B B2 W hs hl ho hr => spec_Expunge_any b0 m t B l1 vs W hs.fit hl hr.read ho)

set_option maxRecDepth 100000 in
theorem lifted (os : Os) (started : os.Started) (H : Type) (enc : TypeId × Value → H) :
    ReturnsInHanded {} Tryz.checked os 7 .any (Rows.fnExactExpungeSpec.pre6 enc Tryz.prog Tryz.f7 Rows.fnExactExpungeRow.domain false) (Rows.fnExactExpungeSpec.post enc Tryz.prog Tryz.f7 false true false false) := by
  refine returnsInHanded_of_change (C := Tryz.checked) own started (by kernel_rfl) Tryz.func7
    (ChangeSpec.witness6 (enc := enc) (C := Tryz.checked) false ⟨#[], #[.agg #[.string ByteArray.empty, .int .i64 0, .int .i64 0, .int .i64 0, .slice none 0 0, .slice none 0 0, .int .i64 0], .slice none 0 0], []⟩ 8 (by kernel_rfl) (by kernel_rfl) (by kernel_rfl) (by kernel_rfl)) ?_
  intro W base args ds gs before hval0 hW hcnd _
  have hval : ∀ (j : Nat) t v, Tryz.f7.params[j]? = some t → args[j]? = some v → Value.okWide Tryz.prog W .any base t v := hval0
  have hW' := hW
  obtain ⟨p, q, hA0, hV, rfl, hfz, hnd⟩ := hW
  have hA : DataW.TrodAll enc Tryz.prog W 0 (fun _ => true) true Tryz.f7.params.toList args.toList ds p := hA0
  rw [Tryz.params7] at hA hval
  obtain ⟨v0, vs0, d0, ds0, p0, q0, hargs, rfl, rfl, h0, r0⟩ := trodAll_cons hA
  obtain ⟨v1, vs1, d1, ds1, p1, q1, rfl, rfl, rfl, h1, r1⟩ := trodAll_cons r0
  obtain ⟨rfl, rfl, rfl⟩ := trodAll_nil r1
  obtain rfl : args = #[v0, v1] := by cases args; simp_all
  obtain ⟨rfl, rfl⟩ := trodVars_none hV
  have k0 := h0
  have lt0 : ∀ x ∈ p0, x.block < W.heap.size := by obtain ⟨m, hm⟩ := k0; exact DataW.trod_lt m _ _ _ hm
  have k1 := h1
  have lt1 : ∀ x ∈ p1, x.block < W.heap.size := by obtain ⟨m, hm⟩ := k1; exact DataW.trod_lt m _ _ _ hm
  obtain ⟨b0, am0, at0, cm0, ct0, rfl, g0⟩ := open_box (hval 0 60 v0 rfl rfl) h0
  obtain ⟨a1, cap1, l1, rfl, m1, g1⟩ := open_ranges (hval 1 61 v1 rfl rfl) h1
  clear hA0 hval0
  refine (walk b0 am0 at0 cm0 ct0 a1 cap1 l1 W g0 m1 g1).mono fun e W' ⟨he, bel⟩ => ?_
  subst he
  exact ⟨_, rfl, _, _, _, [], _, [], hW', trodAll_mk1 (shut_bool Tryz.underlying4 _), (trodAll_cons_mk (Below.trod laidOut (by kernel_rfl) (of_decide_eq_true (by kernel_rfl)) k0 bel lt0) (trodAll_cons_mk (Below.trod laidOut (by kernel_rfl) (of_decide_eq_true (by kernel_rfl)) k1 bel lt1) trodAll_mk0)), rfl, bel.frame _, fun h => by cases h⟩

theorem over : Rows.fnExactExpungeRow.holds Tryz.pinned (OpenSpec.ofChange Rows.fnExactExpungeSpec) :=
  OpenClaim.holds_of_wide 7 Tryz.f7 rfl rfl rfl rfl rfl rfl rfl ⟨rfl, rfl, rfl, rfl, rfl⟩ rfl rfl rfl rfl rfl (by kernel_rfl) Tryz.func7 (by kernel_rfl)
    (of_decide_eq_true (by kernel_rfl)) (by unfold Func.isWrapper; first | (rw [if_pos (by decide +kernel)]; kernel_rfl) | (rw [if_neg (by decide +kernel)]; exact ⟨rfl, rfl⟩))
    (fun os started H enc _ => lifted os started H enc)

theorem proved : Rows.FnExactExpungeSaid := over
#print axioms proved
end Go.Proofs.YtmedhmgihfenhabGreat.fnExactExpunge
