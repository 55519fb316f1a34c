/- FnMailsTold's walk, over whatever contracts of the program's own functions. -/
import Derived.Test.YtmkjocamknhcbaaDoorMailAll
import Derived.Test.YtmkjocamknhcbaaDoorHeadS
import Derived.Test.YtmkjocamknhcbaaDoorSubjectS
namespace Go.Proofs.YtmkjocamknhcbaaDoor
open Go.RowKit
open Plain
set_option linter.unusedVariables false

set_option maxHeartbeats 8000000 in
set_option maxRecDepth 100000 in
theorem FnMailsTold_walk (len cap : Nat) (a : Option Addr) (w : World) (ha : Arg w.heap.size w a len) (CI : MailsI w) :
    Calls Tryd.prog 4 #[.slice a len cap] w fun e w' => e = .returned (.bool true) ∧ Below w.heap.size w w' := by
  have hl := ha.1
  have q0 := bigF_any len cap a w (by omega)
  rw [decide_eq_false (show ¬ (1048576 : Int) < (len : Int) by omega)] at q0
  have Q0 := hide q0
  have DH := hide (fun W (hb : Below w.heap.size w W) => DrawHeadOf_any w.heap.size len cap a W (ha.below hb) hb.size)
  have DB := hide (fun W (hb : Below w.heap.size w W) => DrawBodyOf_any w.heap.size len cap a W (ha.below hb) hb.size)
  have DS := hide (fun W (hb : Below w.heap.size w W) => DrawBaseSubject_any w.heap.size len cap a W (ha.below hb) hb.size)
  have DM := hide (fun W (hb : Below w.heap.size w W) => DrawMailOk_any w.heap.size len cap a W (ha.below hb) hb.size)
  have B0 := hide (Below.refl w.heap.size w)
  have CC := hide CI
  clear q0 ha CI
  go_enter Tryd.func4, Tryd.ntmps4
  go_wp2_with fail
  refine (unhide Q0).mono ?_
  rintro e w0 ⟨rfl, hw⟩
  subst w0
  go_wp2_with fail
  refine (unhide DH _ (unhide B0)).mono ?_
  rintro e w1 ⟨T, N, ht, hn, rfl, hb⟩
  have B1 := hide (below_on (unhide B0) hb)
  clear hb B0
  have CH := hide (fun W hb => (unhide CC).head T N W (by omega) (by omega) hb)
  have SH := hide (fun W => spec_HeadOf_any T N W (by omega) (by omega))
  generalize hh : headL T.data.toList N.data.toList = H at *
  obtain ⟨H1, H2⟩ := H
  clear hh
  simp only at CH SH
  generalize (⟨H1.toArray⟩ : ByteArray) = HB at *
  go_wp2_with fail
  refine (unhide CH _ (unhide B1)).mono ?_
  rintro e w2 ⟨rfl, hb⟩
  have B2 := hide (below_on (unhide B1) hb)
  clear hb B1
  go_wp2_with fail
  refine (unhide SH _).mono ?_
  rintro e w3 ⟨rfl, hb⟩
  have B3 := hide (below_on (unhide B2) hb)
  clear hb B2
  go_wp2_with fail
  refine (unhide DB _ (unhide B3)).mono ?_
  rintro e w4 ⟨X, hx, rfl, hb⟩
  have B4 := hide (below_on (unhide B3) hb)
  clear hb B3
  have CB := hide (fun W hb => (unhide CC).body X W (by omega) hb)
  have SB := hide (fun W => spec_BodyOf_any X W (by omega))
  generalize (⟨(bodyL X.data.toList).toArray⟩ : ByteArray) = XB at *
  go_wp2_with fail
  refine (unhide DS _ (unhide B4)).mono ?_
  rintro e w5 ⟨Y, hy, rfl, hb⟩
  have B5 := hide (below_on (unhide B4) hb)
  clear hb B4
  have CS := hide (fun W hb => (unhide CC).base Y W (by omega) hb)
  have SS := hide (fun W => spec_BaseSubject_any Y W (by omega))
  generalize (⟨(baseL Y.data.toList).toArray⟩ : ByteArray) = YB at *
  go_wp2_with fail
  refine (unhide DM _ (unhide B5)).mono ?_
  rintro e w6 ⟨Z, hz, rfl, hb⟩
  have B6 := hide (below_on (unhide B5) hb)
  clear hb B5
  have CM := hide (fun W hb => (unhide CC).ok Z W (by omega) hb)
  have SM := hide (fun W => spec_MailOk_any Z W (by omega))
  generalize mailOkL Z.data.toList = ZB at *
  have C1 := fun W hb => (unhide CC).ok ⟨#[97]⟩ W (by decide) hb
  have C2 := fun W hb => (unhide CC).ok ⟨#[]⟩ W (by decide) hb
  rw [show mailOkL (⟨#[97]⟩ : ByteArray).data.toList = true by decide] at C1
  rw [show mailOkL (⟨#[]⟩ : ByteArray).data.toList = false by decide] at C2
  have CX := hide C1
  have CY := hide C2
  clear C1 C2
  go_wp2_with fail
  refine (unhide CB _ (unhide B6)).mono ?_
  rintro e w7 ⟨rfl, hb⟩
  have B7 := hide (below_on (unhide B6) hb)
  clear hb B6
  go_wp2_with fail
  refine (unhide SB _).mono ?_
  rintro e wS ⟨rfl, hw⟩
  subst wS
  go_wp2_with fail
  refine (unhide CS _ (unhide B7)).mono ?_
  rintro e w8 ⟨rfl, hb⟩
  have B8 := hide (below_on (unhide B7) hb)
  clear hb B7
  go_wp2_with fail
  refine (unhide SS _).mono ?_
  rintro e w9 ⟨rfl, hb⟩
  have B9 := hide (below_on (unhide B8) hb)
  clear hb B8
  go_wp2_with fail
  refine (unhide CM _ (unhide B9)).mono ?_
  rintro e w10 ⟨rfl, hb⟩
  have B10 := hide (below_on (unhide B9) hb)
  clear hb B9
  go_wp2_with fail
  refine (unhide SM _).mono ?_
  rintro e wS ⟨rfl, hw⟩
  subst wS
  go_wp2_with fail
  refine (unhide CX _ (unhide B10)).mono ?_
  rintro e w11 ⟨rfl, hb⟩
  have B11 := hide (below_on (unhide B10) hb)
  clear hb B10
  go_wp2_with fail
  refine (unhide CY _ (unhide B11)).mono ?_
  rintro e w12 ⟨rfl, hb⟩
  have B12 := hide (below_on (unhide B11) hb)
  clear hb B11
  go_wp2
  go_ret
  exact ⟨rfl, unhide B12⟩

theorem FnMailsTold_big (len cap : Nat) (a : Option Addr) (w : World) (h1 : 1048576 < len) (h2 : len ≤ 9223372036854775807) :
    Calls Tryd.prog 4 #[.slice a len cap] w fun e w' => e = .returned (.bool true) ∧ Below w.heap.size w w' := by
  have Q := bigF_any len cap a w h2
  rw [show decide ((1048576 : Int) < len) = true by rw [decide_eq_true_eq]; omega] at Q
  have Q := hide Q
  go_enter Tryd.func4, Tryd.ntmps4
  go_wp2_with (go_at_call 7; refine (unhide Q).mono ?_; rintro e w1 ⟨rfl, hw⟩; subst w1)
  go_ret
  exact ⟨rfl, Below.refl _ _⟩
end Go.Proofs.YtmkjocamknhcbaaDoor
