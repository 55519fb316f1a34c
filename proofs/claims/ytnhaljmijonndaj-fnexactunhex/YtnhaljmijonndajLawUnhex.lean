/-
  FnExactUnhex: at every text the program's Unhex answers as the specification's: the law returns true, and the argument reads as it did; no condition (a text of over 2^20 bytes is passed by the law itself).
-/
import Derived.Test.YtnhaljmijonndajRows
import Derived.Test.YtnhaljmijonndajPlain
import Derived.Test.YtnhaljmijonndajUnhexImpl
import Derived.WalkKit
import Derived.ProofKit
import Derived.OpenShut
import Derived.ShutString
import Derived.ChangeOld
import Derived.Below
namespace Go.Proofs.Ytnhaljmijonndaj.fnExactUnhex
open Go.ChangeShapes Go.WideShapes Go.ChangeAt Go.RowKit
open Go.ChangeMaps (open_string shut_string)
open Plain
set_option linter.unusedVariables false

theorem own : ownKnob Try.prog.godebug = none := by kernel_rfl
theorem laidOut : laidOutB Try.prog = true := by kernel_rfl

theorem walk (a0 : ByteArray) (w : World) (w0 : a0.size ≤ maxLen) :
    Calls Try.prog 8 #[.string a0] w fun e w' => e = .returned (.bool true) ∧ Below w.heap.size w w' := by
  by_cases hs : a0.size ≤ 1048576
  · obtain ⟨t, b, c1, c2⟩ : ∃ (t : ByteArray) (b : Bool), (∀ wx, Calls Try.prog 19 #[.string a0] wx fun e w' => e = .returned (.tuple #[.string t, .bool b]) ∧ Below wx.heap.size wx w') ∧
        (∀ wx, Calls Try.prog 20 #[.string a0] wx fun e w' => e = .returned (.tuple #[.string t, .bool b]) ∧ Below wx.heap.size wx w') := by
      by_cases h : a0.size ≤ 40000 ∧ a0.size % 2 = 0
      · by_cases hc : allF a0.data.toList = true
        · have e : unV a0.data.toList = .tuple #[.string ⟨(outL a0.data.toList (a0.data.toList.length / 2)).toArray⟩, .bool true] := if_pos hc
          exact ⟨_, true, fun wx => by rw [← e]; exact spec_Unhex_in a0 wx h.1 h.2, fun wx => by rw [← e]; exact impl_Unhex_in a0 wx h.1 h.2⟩
        · have e : unV a0.data.toList = .tuple #[.string ⟨#[]⟩, .bool false] := if_neg hc
          exact ⟨⟨#[]⟩, false, fun wx => by rw [← e]; exact spec_Unhex_in a0 wx h.1 h.2, fun wx => by rw [← e]; exact impl_Unhex_in a0 wx h.1 h.2⟩
      · have ho : 40000 < a0.size ∨ a0.size % 2 ≠ 0 := by omega
        exact ⟨⟨#[]⟩, false, fun wx => spec_Unhex_out a0 wx hs ho, fun wx => impl_Unhex_out a0 wx hs ho⟩
    go_enter Try.func8, Try.ntmps8
    go_wp2_with (first | (go_at_call 19; refine (c1 _).mono ?_; rintro e w1 ⟨rfl, hb1⟩) | (go_at_call 20; refine (c2 _).mono ?_; rintro e w2 ⟨rfl, hb2⟩))
    go_ret
    exact ⟨rfl, below2 (by assumption) (by assumption)⟩
  · go_enter Try.func8, Try.ntmps8
    go_wp2
    go_ret
    exact ⟨rfl, Below.refl _ _⟩

set_option maxRecDepth 100000 in
theorem lifted (os : Os) (started : os.Started) (H : Type) (enc : TypeId × Value → H) :
    ReturnsInHanded {} Try.checked os 8 .any (Rows.fnExactUnhexSpec.pre6 enc Try.prog Try.f8 Rows.fnExactUnhexRow.domain false) (Rows.fnExactUnhexSpec.post enc Try.prog Try.f8 false true false false) := by
  refine returnsInHanded_of_change (C := Try.checked) own started (by kernel_rfl) Try.func8
    (ChangeSpec.witness6 (enc := enc) (C := Try.checked) false ⟨#[], #[.string ByteArray.empty], []⟩ 8 (by kernel_rfl) (by kernel_rfl) (by kernel_rfl) (by kernel_rfl)) ?_
  intro W base args ds gs before hval0 hW hcnd _
  have hval : ∀ (j : Nat) t v, Try.f8.params[j]? = some t → args[j]? = some v → Value.okWide Try.prog W .any base t v := hval0
  have hW' := hW
  obtain ⟨p, q, hA0, hV, rfl, hfz, hnd⟩ := hW
  have hA : DataW.TrodAll enc Try.prog W 0 (fun _ => true) true Try.f8.params.toList args.toList ds p := hA0
  rw [Try.params8] at hA hval
  obtain ⟨v0, vs0, d0, ds0, p0, q0, hargs, rfl, rfl, h0, r0⟩ := trodAll_cons hA
  obtain ⟨rfl, rfl, rfl⟩ := trodAll_nil r0
  obtain rfl : args = #[v0] := by cases args; simp_all
  obtain ⟨rfl, rfl⟩ := trodVars_none hV
  obtain ⟨a0, rfl, rfl, rfl, w0⟩ := open_string Try.underlying9 (hval 0 9 v0 rfl rfl) h0
  clear hA0 hval0
  refine (walk a0 W w0).mono fun e W' ⟨he, bel⟩ => ?_
  subst he
  exact ⟨_, rfl, _, _, _, [], _, [], hW', trodAll_mk1 (shut_bool Try.underlying4 _), (trodAll_cons_mk (shut_string Try.underlying9 w0) trodAll_mk0), rfl, bel.frame _, fun h => by cases h⟩

theorem over : Rows.fnExactUnhexRow.holds Try.pinned (OpenSpec.ofChange Rows.fnExactUnhexSpec) :=
  OpenClaim.holds_of_wide 8 Try.f8 rfl rfl rfl rfl rfl rfl rfl ⟨rfl, rfl, rfl, rfl, rfl⟩ rfl rfl rfl rfl rfl (by kernel_rfl) Try.func8 (by kernel_rfl)
    (of_decide_eq_true (by kernel_rfl)) (by unfold Func.isWrapper; first | (rw [if_pos (by decide +kernel)]; kernel_rfl) | (rw [if_neg (by decide +kernel)]; exact ⟨rfl, rfl⟩))
    (fun os started H enc _ => lifted os started H enc)

theorem proved : Rows.FnExactUnhexSaid := over
#print axioms proved
end Go.Proofs.Ytnhaljmijonndaj.fnExactUnhex
