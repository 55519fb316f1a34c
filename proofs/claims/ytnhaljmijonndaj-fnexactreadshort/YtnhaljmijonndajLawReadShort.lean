/-
  FnExactReadShort: at every text and place the program's ReadShort answers as the specification's: the law returns true, and the arguments read as they did; no condition (a text of over 2^20 bytes is passed by the law itself).
-/
import Derived.Test.YtnhaljmijonndajRows
import Derived.Test.YtnhaljmijonndajPlain
import Derived.Test.YtnhaljmijonndajRShort
import Derived.WalkKit
import Derived.ProofKit
import Derived.OpenShut
import Derived.ShutString
import Derived.ChangeOld
import Derived.Below
namespace Go.Proofs.Ytnhaljmijonndaj.fnExactReadShort
open Go.ChangeShapes Go.WideShapes Go.ChangeAt Go.RowKit
open Go.ChangeMaps (open_string shut_string)
open Plain
set_option linter.unusedVariables false

theorem own : ownKnob Try.prog.godebug = none := by kernel_rfl
theorem laidOut : laidOutB Try.prog = true := by kernel_rfl

theorem walk (a0 : ByteArray) (a1 : Int) (w : World) (w0 : a0.size ≤ maxLen) (w1 : (Lit.int .i64 a1).wf = true) :
    Calls Try.prog 6 #[.string a0, .int .i64 a1] w fun e w' => e = .returned (.bool true) ∧ Below w.heap.size w w' := by
  by_cases hs : a0.size ≤ 1048576
  · obtain ⟨t, i, b, c1, c2⟩ : ∃ (t : ByteArray) (i : Int) (b : Bool), (∀ wx, Calls Try.prog 15 #[.string a0, .int .i64 a1] wx fun e w' => e = .returned (.tuple #[.string t, .int .i64 i, .bool b]) ∧ Below wx.heap.size wx w') ∧
        (∀ wx, Calls Try.prog 16 #[.string a0, .int .i64 a1] wx fun e w' => e = .returned (.tuple #[.string t, .int .i64 i, .bool b]) ∧ Below wx.heap.size wx w') := by
      by_cases h : 0 ≤ a1 ∧ a1 ≤ a0.size
      · obtain ⟨A, rfl⟩ := Int.eq_ofNat_of_zero_le h.1
        have hA : A ≤ a0.size := by omega
        rcases rv_some hA with hr | ⟨n, q, hr, hn, hq⟩
        · exact ⟨⟨#[]⟩, 0, false, fun wx => spec_ReadShort_none a0 A wx (fun wy => by rw [← hr]; exact spec_ReadVar_in a0 A wy hs hA), fun wx => impl_ReadShort_none a0 A wx (fun wy => by rw [← hr]; exact impl_ReadVar_in a0 A wy hs hA)⟩
        · by_cases hc : n ≤ 20000 ∧ n + q ≤ a0.size
          · have e : rsV a0 n q = .tuple #[.string (a0.extract q (q + n)), .int .i64 ((q : Int) + n), .bool true] := if_pos hc
            exact ⟨a0.extract q (q + n), (q : Int) + n, true, fun wx => by rw [← e]; exact spec_ReadShort_some a0 A n q wx hs hA hn hq hr, fun wx => by rw [← e]; exact impl_ReadShort_some a0 A n q wx hs hA hn hq hr⟩
          · have e : rsV a0 n q = .tuple #[.string ⟨#[]⟩, .int .i64 0, .bool false] := if_neg hc
            exact ⟨⟨#[]⟩, 0, false, fun wx => by rw [← e]; exact spec_ReadShort_some a0 A n q wx hs hA hn hq hr, fun wx => by rw [← e]; exact impl_ReadShort_some a0 A n q wx hs hA hn hq hr⟩
      · have ho : a1 < 0 ∨ (a0.size : Int) < a1 := by omega
        exact ⟨⟨#[]⟩, 0, false, fun wx => spec_ReadShort_none a0 a1 wx (fun wy => spec_ReadVar_out a0 a1 wy hs ho), fun wx => impl_ReadShort_none a0 a1 wx (fun wy => impl_ReadVar_out a0 a1 wy hs ho)⟩
    go_enter Try.func6, Try.ntmps6
    go_wp2_with (first | (go_at_call 15; refine (c1 _).mono ?_; rintro e w1 ⟨rfl, hb1⟩) | (go_at_call 16; refine (c2 _).mono ?_; rintro e w2 ⟨rfl, hb2⟩))
    go_ret
    exact ⟨rfl, below2 (by assumption) (by assumption)⟩
  · go_enter Try.func6, Try.ntmps6
    go_wp2
    go_ret
    exact ⟨rfl, Below.refl _ _⟩

set_option maxRecDepth 100000 in
theorem lifted (os : Os) (started : os.Started) (H : Type) (enc : TypeId × Value → H) :
    ReturnsInHanded {} Try.checked os 6 .any (Rows.fnExactReadShortSpec.pre6 enc Try.prog Try.f6 Rows.fnExactReadShortRow.domain false) (Rows.fnExactReadShortSpec.post enc Try.prog Try.f6 false true false false) := by
  refine returnsInHanded_of_change (C := Try.checked) own started (by kernel_rfl) Try.func6
    (ChangeSpec.witness6 (enc := enc) (C := Try.checked) false ⟨#[], #[.string ByteArray.empty, .int .i64 0], []⟩ 8 (by kernel_rfl) (by kernel_rfl) (by kernel_rfl) (by kernel_rfl)) ?_
  intro W base args ds gs before hval0 hW hcnd _
  have hval : ∀ (j : Nat) t v, Try.f6.params[j]? = some t → args[j]? = some v → Value.okWide Try.prog W .any base t v := hval0
  have hW' := hW
  obtain ⟨p, q, hA0, hV, rfl, hfz, hnd⟩ := hW
  have hA : DataW.TrodAll enc Try.prog W 0 (fun _ => true) true Try.f6.params.toList args.toList ds p := hA0
  rw [Try.params6] at hA hval
  obtain ⟨v0, vs0, d0, ds0, p0, q0, hargs, rfl, rfl, h0, r0⟩ := trodAll_cons hA
  obtain ⟨v1, vs1, d1, ds1, p1, q1, rfl, rfl, rfl, h1, r1⟩ := trodAll_cons r0
  obtain ⟨rfl, rfl, rfl⟩ := trodAll_nil r1
  obtain rfl : args = #[v0, v1] := by cases args; simp_all
  obtain ⟨rfl, rfl⟩ := trodVars_none hV
  obtain ⟨a0, rfl, rfl, rfl, w0⟩ := open_string Try.underlying9 (hval 0 9 v0 rfl rfl) h0
  obtain ⟨a1, rfl, rfl, rfl, w1⟩ := open_int Try.underlying3 (hval 1 3 v1 rfl rfl) h1
  clear hA0 hval0
  refine (walk a0 a1 W w0 w1).mono fun e W' ⟨he, bel⟩ => ?_
  subst he
  exact ⟨_, rfl, _, _, _, [], _, [], hW', trodAll_mk1 (shut_bool Try.underlying4 _), (trodAll_cons_mk (shut_string Try.underlying9 w0) (trodAll_cons_mk (shut_int Try.underlying3 w1) trodAll_mk0)), rfl, bel.frame _, fun h => by cases h⟩

theorem over : Rows.fnExactReadShortRow.holds Try.pinned (OpenSpec.ofChange Rows.fnExactReadShortSpec) :=
  OpenClaim.holds_of_wide 6 Try.f6 rfl rfl rfl rfl rfl rfl rfl ⟨rfl, rfl, rfl, rfl, rfl⟩ rfl rfl rfl rfl rfl (by kernel_rfl) Try.func6 (by kernel_rfl)
    (of_decide_eq_true (by kernel_rfl)) (by unfold Func.isWrapper; first | (rw [if_pos (by decide +kernel)]; kernel_rfl) | (rw [if_neg (by decide +kernel)]; exact ⟨rfl, rfl⟩))
    (fun os started H enc _ => lifted os started H enc)

theorem proved : Rows.FnExactReadShortSaid := over
#print axioms proved
end Go.Proofs.Ytnhaljmijonndaj.fnExactReadShort
