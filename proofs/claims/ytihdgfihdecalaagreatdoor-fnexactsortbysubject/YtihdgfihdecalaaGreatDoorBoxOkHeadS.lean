/- The specification's BoxOk: a head that is not right. Made by gen_boxok.py. -/
import Derived.Test.YtihdgfihdecalaaGreatDoorBoxNameS
namespace Go.Proofs.YtihdgfihdecalaaGreatDoor
open Go.RowKit
open Plain
set_option linter.unusedVariables false

set_option maxHeartbeats 4000000 in
set_option maxRecDepth 100000 in
theorem spec_BoxOk_head (b : Bx) (m t : Value) (B : Nat) (w : World) (hf : FitBx b) (h : OwnBx B w m t b) (hh : headOk b = false) :
    Calls Tryz.prog 25 #[boxV b m t] w fun e w' => e = .returned (.bool (boxOk b)) ∧ Below w.heap.size w w' := by
  have V := hide (boxOk_head hh)
  have hl1 := hf.mails
  have hl2 := hf.tombs
  obtain ⟨am, cm, rfl⟩ := g_shape h.1
  obtain ⟨at1, ct1, rfl⟩ := g_shape h.2
  obtain ⟨X, hX⟩ : ∃ X, X = w.alloc (.cells (boxL b (.slice am b.mails.length cm) (.slice at1 b.tombs.length ct1)).toArray 34) := ⟨_, rfl⟩
  have x0 : HasObj X w.heap.size 34 (boxL b (.slice am b.mails.length cm) (.slice at1 b.tombs.length ct1)) := by rw [hX]; exact HasObj.new _ _ _
  have hbX : Below w.heap.size w X := by rw [hX]; exact (Below.refl _ _).alloc (Nat.le_refl _) _
  have k0 := x0.cell 0 rfl
  have k1 := x0.cell 1 rfl
  have k2 := x0.cell 2 rfl
  have k3 := x0.cell 3 rfl
  have k4 := x0.cell 4 rfl
  have k5 := x0.cell 5 rfl
  have k6 := x0.cell 6 rfl
  have BX := hide hbX
  have QN := spec_BoxName_any b.name X hf.name
  have QV := in_any b.valid 1 9999 X
  have QX := in_any b.next 1 9999 X
  have QM := in_any b.mod 1 100000 X
  have QH := in_any b.hor 0 b.mod X
  have HX := hX.symm
  clear hX x0 hbX h
  unfold headOk at hh
  cases h0 : nameOkL b.name.data.toList with
  | false =>
    rw [h0] at QN
    have QN := hide QN
    clear hh h0
    go_enter Tryz.func25, Tryz.ntmps25
    go_wp2_with fail
    refine (unhide QN).mono ?_
    rintro e w1 ⟨rfl, hw⟩
    subst w1
    go_wp2
    go_ret
    exact ⟨by rw [unhide V]; rfl, unhide BX⟩
  | true =>
    cases h1 : inI b.valid 1 9999 with
    | false =>
      rw [h0] at QN
      have QN := hide QN
      rw [h1] at QV
      have QV := hide QV
      clear hh h0 h1
      go_enter Tryz.func25, Tryz.ntmps25
      go_wp2_with fail
      refine (unhide QN).mono ?_
      rintro e w1 ⟨rfl, hw⟩
      subst w1
      go_wp2_with fail
      refine (unhide QV).mono ?_
      rintro e w1 ⟨rfl, hw⟩
      subst w1
      go_wp2
      go_ret
      exact ⟨by rw [unhide V]; rfl, unhide BX⟩
    | true =>
      cases h2 : inI b.next 1 9999 with
      | false =>
        rw [h0] at QN
        have QN := hide QN
        rw [h1] at QV
        have QV := hide QV
        rw [h2] at QX
        have QX := hide QX
        clear hh h0 h1 h2
        go_enter Tryz.func25, Tryz.ntmps25
        go_wp2_with fail
        refine (unhide QN).mono ?_
        rintro e w1 ⟨rfl, hw⟩
        subst w1
        go_wp2_with fail
        refine (unhide QV).mono ?_
        rintro e w1 ⟨rfl, hw⟩
        subst w1
        go_wp2_with fail
        refine (unhide QX).mono ?_
        rintro e w1 ⟨rfl, hw⟩
        subst w1
        go_wp2
        go_ret
        exact ⟨by rw [unhide V]; rfl, unhide BX⟩
      | true =>
        cases h3 : inI b.mod 1 100000 with
        | false =>
          rw [h0] at QN
          have QN := hide QN
          rw [h1] at QV
          have QV := hide QV
          rw [h2] at QX
          have QX := hide QX
          rw [h3] at QM
          have QM := hide QM
          clear hh h0 h1 h2 h3
          go_enter Tryz.func25, Tryz.ntmps25
          go_wp2_with fail
          refine (unhide QN).mono ?_
          rintro e w1 ⟨rfl, hw⟩
          subst w1
          go_wp2_with fail
          refine (unhide QV).mono ?_
          rintro e w1 ⟨rfl, hw⟩
          subst w1
          go_wp2_with fail
          refine (unhide QX).mono ?_
          rintro e w1 ⟨rfl, hw⟩
          subst w1
          go_wp2_with fail
          refine (unhide QM).mono ?_
          rintro e w1 ⟨rfl, hw⟩
          subst w1
          go_wp2
          go_ret
          exact ⟨by rw [unhide V]; rfl, unhide BX⟩
        | true =>
          cases h4 : decide (b.mails.length ≤ 30) with
          | false =>
            rw [h0] at QN
            have QN := hide QN
            rw [h1] at QV
            have QV := hide QV
            rw [h2] at QX
            have QX := hide QX
            rw [h3] at QM
            have QM := hide QM
            have d1 : decide ((30 : Int) < (b.mails.length : Int)) = true := by rw [decide_eq_true_eq]; rw [decide_eq_false_iff_not] at h4; omega
            clear hh h0 h1 h2 h3 h4
            go_enter Tryz.func25, Tryz.ntmps25
            go_wp2_with fail
            refine (unhide QN).mono ?_
            rintro e w1 ⟨rfl, hw⟩
            subst w1
            go_wp2_with fail
            refine (unhide QV).mono ?_
            rintro e w1 ⟨rfl, hw⟩
            subst w1
            go_wp2_with fail
            refine (unhide QX).mono ?_
            rintro e w1 ⟨rfl, hw⟩
            subst w1
            go_wp2_with fail
            refine (unhide QM).mono ?_
            rintro e w1 ⟨rfl, hw⟩
            subst w1
            go_wp2
            go_ret
            exact ⟨by rw [unhide V]; rfl, unhide BX⟩
          | true =>
            cases h5 : decide (b.tombs.length ≤ 40) with
            | false =>
              rw [h0] at QN
              have QN := hide QN
              rw [h1] at QV
              have QV := hide QV
              rw [h2] at QX
              have QX := hide QX
              rw [h3] at QM
              have QM := hide QM
              have d1 : decide ((30 : Int) < (b.mails.length : Int)) = false := by rw [decide_eq_false_iff_not]; rw [decide_eq_true_eq] at h4; omega
              have d2 : decide ((40 : Int) < (b.tombs.length : Int)) = true := by rw [decide_eq_true_eq]; rw [decide_eq_false_iff_not] at h5; omega
              clear hh h0 h1 h2 h3 h4 h5
              go_enter Tryz.func25, Tryz.ntmps25
              go_wp2_with fail
              refine (unhide QN).mono ?_
              rintro e w1 ⟨rfl, hw⟩
              subst w1
              go_wp2_with fail
              refine (unhide QV).mono ?_
              rintro e w1 ⟨rfl, hw⟩
              subst w1
              go_wp2_with fail
              refine (unhide QX).mono ?_
              rintro e w1 ⟨rfl, hw⟩
              subst w1
              go_wp2_with fail
              refine (unhide QM).mono ?_
              rintro e w1 ⟨rfl, hw⟩
              subst w1
              go_wp2
              go_ret
              exact ⟨by rw [unhide V]; rfl, unhide BX⟩
            | true =>
              cases h6 : inI b.hor 0 b.mod with
              | false =>
                rw [h0] at QN
                have QN := hide QN
                rw [h1] at QV
                have QV := hide QV
                rw [h2] at QX
                have QX := hide QX
                rw [h3] at QM
                have QM := hide QM
                rw [h6] at QH
                have QH := hide QH
                have d1 : decide ((30 : Int) < (b.mails.length : Int)) = false := by rw [decide_eq_false_iff_not]; rw [decide_eq_true_eq] at h4; omega
                have d2 : decide ((40 : Int) < (b.tombs.length : Int)) = false := by rw [decide_eq_false_iff_not]; rw [decide_eq_true_eq] at h5; omega
                clear hh h0 h1 h2 h3 h4 h5 h6
                go_enter Tryz.func25, Tryz.ntmps25
                go_wp2_with fail
                refine (unhide QN).mono ?_
                rintro e w1 ⟨rfl, hw⟩
                subst w1
                go_wp2_with fail
                refine (unhide QV).mono ?_
                rintro e w1 ⟨rfl, hw⟩
                subst w1
                go_wp2_with fail
                refine (unhide QX).mono ?_
                rintro e w1 ⟨rfl, hw⟩
                subst w1
                go_wp2_with fail
                refine (unhide QM).mono ?_
                rintro e w1 ⟨rfl, hw⟩
                subst w1
                go_wp2_with fail
                refine (unhide QH).mono ?_
                rintro e w1 ⟨rfl, hw⟩
                subst w1
                go_wp2
                go_ret
                exact ⟨by rw [unhide V]; rfl, unhide BX⟩
              | true =>
                simp [h0, h1, h2, h3, h4, h5, h6] at hh
end Go.Proofs.YtihdgfihdecalaaGreatDoor
