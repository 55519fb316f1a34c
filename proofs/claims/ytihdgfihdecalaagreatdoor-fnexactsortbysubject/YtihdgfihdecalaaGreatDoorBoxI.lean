/- Boxes: the program's BoxOk, copiedBox, BoxNew and AddMail. Made by gen_boxoki.py. -/
import Derived.Test.YtihdgfihdecalaaGreatDoorUiA
import Derived.Test.YtihdgfihdecalaaGreatDoorCopyI
import Derived.Test.YtihdgfihdecalaaGreatDoorBoxOkS
import Derived.Test.YtihdgfihdecalaaGreatDoorAddMailS
namespace Go.Proofs.YtihdgfihdecalaaGreatDoor
open Go.RowKit
open Plain
set_option linter.unusedVariables false
set_option linter.unusedSimpArgs false

set_option maxHeartbeats 8000000 in
set_option maxRecDepth 100000 in
theorem impl_BoxOk_any (b : Bx) (m t : Value) (B : Nat) (w : World) (hf : FitBx b) (h : OwnBx B w m t b) :
    Calls Tryz.prog 50 #[boxV b m t] w fun e w' => e = .returned (.bool (boxOk b)) ∧ Below w.heap.size w w' := by
  rw [← boxOkI_is]
  have HF := hide hf
  have HO := hide h
  obtain ⟨am, cm, rfl⟩ := g_shape h.1
  obtain ⟨at1, ct1, rfl⟩ := g_shape h.2
  have VI : Hid (boxOkI b = (nameOkL b.name.data.toList && (inI b.valid 1 9999 && (inI b.next 1 9999 && (inI b.mod 1 100000 && (inI b.hor 0 b.mod && (mailsB b && (tombsB b && apartB b)))))))) := rfl
  clear hf h
  have BB := hide (Below.refl w.heap.size w)
  obtain ⟨w1, hP⟩ : ∃ X, X = w.alloc (.cells ([.string b.name, .int .i64 b.valid, .int .i64 b.next, .int .i64 b.mod, .slice am b.mails.length cm, .slice at1 b.tombs.length ct1, .int .i64 b.hor] : List Value).toArray 34) := ⟨_, rfl⟩
  have Px : HasObj w1 w.heap.size 34 [.string b.name, .int .i64 b.valid, .int .i64 b.next, .int .i64 b.mod, .slice am b.mails.length cm, .slice at1 b.tombs.length ct1, .int .i64 b.hor] := by rw [hP]; exact HasObj.new _ _ _
  have hbn : Below w.heap.size w w1 := by rw [hP]; exact (Below.refl _ _).alloc (Nat.le_refl _) _
  have loP : w.heap.size ≤ w.heap.size := (unhide BB).size
  have EP := hP.symm
  clear hP
  have sz1 := hide (hbn.size)
  have BB_ := hide (below_y (unhide BB) hbn)
  clear BB
  have BB := BB_
  clear BB_
  clear hbn
  have P := hide Px
  clear Px
  have Pc0_1 := (unhide P).cell 0 rfl
  have Pc1_1 := (unhide P).cell 1 rfl
  have Pc2_1 := (unhide P).cell 2 rfl
  have Pc3_1 := (unhide P).cell 3 rfl
  have Pc4_1 := (unhide P).cell 4 rfl
  have Pc5_1 := (unhide P).cell 5 rfl
  have Pc6_1 := (unhide P).cell 6 rfl
  go_enter Tryz.func50, Tryz.ntmps50
  go_wp2_with fail
  clear Pc0_1 Pc1_1 Pc2_1 Pc3_1 Pc4_1 Pc5_1 Pc6_1 EP
  refine (impl_BoxName_any b.name _ (unhide HF).name).mono ?_
  rintro e w2 ⟨rfl, hb⟩
  have P_ := hide ((unhide P).ups hb)
  clear P
  have P := P_
  clear P_
  have sz2 := hide (hb.size)
  have BB_ := hide (below_y (unhide BB) hb)
  clear BB
  have BB := BB_
  clear BB_
  clear hb
  have Pc0_2 := (unhide P).cell 0 rfl
  have Pc1_2 := (unhide P).cell 1 rfl
  have Pc2_2 := (unhide P).cell 2 rfl
  have Pc3_2 := (unhide P).cell 3 rfl
  have Pc4_2 := (unhide P).cell 4 rfl
  have Pc5_2 := (unhide P).cell 5 rfl
  have Pc6_2 := (unhide P).cell 6 rfl
  cases hq1 : nameOkL b.name.data.toList with
  | false =>
    have V : Hid (boxOkI b = false) := by show _ = _; rw [unhide VI, hq1]; rfl
    clear hq1
    go_wp2
    go_ret
    exact ⟨by rw [unhide V]; rfl, unhide BB⟩
  | true =>
  have hqq := hide hq1
  clear hq1
  have hq1 := hqq
  clear hqq
  go_wp2_with fail
  clear Pc0_2 Pc1_2 Pc2_2 Pc3_2 Pc4_2 Pc5_2 Pc6_2
  refine (impl_within_any b.valid 1 9999 _).mono ?_
  rintro e w3 ⟨rfl, hw⟩
  subst w3
  have Pc0_3 := (unhide P).cell 0 rfl
  have Pc1_3 := (unhide P).cell 1 rfl
  have Pc2_3 := (unhide P).cell 2 rfl
  have Pc3_3 := (unhide P).cell 3 rfl
  have Pc4_3 := (unhide P).cell 4 rfl
  have Pc5_3 := (unhide P).cell 5 rfl
  have Pc6_3 := (unhide P).cell 6 rfl
  cases hq2 : inI b.valid 1 9999 with
  | false =>
    have V : Hid (boxOkI b = false) := by show _ = _; rw [unhide VI, unhide hq1, hq2]; rfl
    clear hq2
    go_wp2
    go_ret
    exact ⟨by rw [unhide V]; rfl, unhide BB⟩
  | true =>
  have hqq := hide hq2
  clear hq2
  have hq2 := hqq
  clear hqq
  go_wp2_with fail
  clear Pc0_3 Pc1_3 Pc2_3 Pc3_3 Pc4_3 Pc5_3 Pc6_3
  refine (impl_within_any b.next 1 9999 _).mono ?_
  rintro e w4 ⟨rfl, hw⟩
  subst w4
  have Pc0_4 := (unhide P).cell 0 rfl
  have Pc1_4 := (unhide P).cell 1 rfl
  have Pc2_4 := (unhide P).cell 2 rfl
  have Pc3_4 := (unhide P).cell 3 rfl
  have Pc4_4 := (unhide P).cell 4 rfl
  have Pc5_4 := (unhide P).cell 5 rfl
  have Pc6_4 := (unhide P).cell 6 rfl
  cases hq3 : inI b.next 1 9999 with
  | false =>
    have V : Hid (boxOkI b = false) := by show _ = _; rw [unhide VI, unhide hq1, unhide hq2, hq3]; rfl
    clear hq3
    go_wp2
    go_ret
    exact ⟨by rw [unhide V]; rfl, unhide BB⟩
  | true =>
  have hqq := hide hq3
  clear hq3
  have hq3 := hqq
  clear hqq
  go_wp2_with fail
  clear Pc0_4 Pc1_4 Pc2_4 Pc3_4 Pc4_4 Pc5_4 Pc6_4
  refine (impl_within_any b.mod 1 100000 _).mono ?_
  rintro e w5 ⟨rfl, hw⟩
  subst w5
  have Pc0_5 := (unhide P).cell 0 rfl
  have Pc1_5 := (unhide P).cell 1 rfl
  have Pc2_5 := (unhide P).cell 2 rfl
  have Pc3_5 := (unhide P).cell 3 rfl
  have Pc4_5 := (unhide P).cell 4 rfl
  have Pc5_5 := (unhide P).cell 5 rfl
  have Pc6_5 := (unhide P).cell 6 rfl
  cases hq4 : inI b.mod 1 100000 with
  | false =>
    have V : Hid (boxOkI b = false) := by show _ = _; rw [unhide VI, unhide hq1, unhide hq2, unhide hq3, hq4]; rfl
    clear hq4
    go_wp2
    go_ret
    exact ⟨by rw [unhide V]; rfl, unhide BB⟩
  | true =>
  have hqq := hide hq4
  clear hq4
  have hq4 := hqq
  clear hqq
  go_wp2_with fail
  clear Pc0_5 Pc1_5 Pc2_5 Pc3_5 Pc4_5 Pc5_5 Pc6_5
  refine (impl_within_any b.hor 0 b.mod _).mono ?_
  rintro e w6 ⟨rfl, hw⟩
  subst w6
  have Pc0_6 := (unhide P).cell 0 rfl
  have Pc1_6 := (unhide P).cell 1 rfl
  have Pc2_6 := (unhide P).cell 2 rfl
  have Pc3_6 := (unhide P).cell 3 rfl
  have Pc4_6 := (unhide P).cell 4 rfl
  have Pc5_6 := (unhide P).cell 5 rfl
  have Pc6_6 := (unhide P).cell 6 rfl
  cases hq5 : inI b.hor 0 b.mod with
  | false =>
    have V : Hid (boxOkI b = false) := by show _ = _; rw [unhide VI, unhide hq1, unhide hq2, unhide hq3, unhide hq4, hq5]; rfl
    clear hq5
    go_wp2
    go_ret
    exact ⟨by rw [unhide V]; rfl, unhide BB⟩
  | true =>
  have hqq := hide hq5
  clear hq5
  have hq5 := hqq
  clear hqq
  go_wp2_with fail
  clear Pc0_6 Pc1_6 Pc2_6 Pc3_6 Pc4_6 Pc5_6 Pc6_6
  refine (impl_mailsOk_any b _ _ B _ (unhide HF) (inI_iff.1 (unhide hq3)).1 (inI_iff.1 (unhide hq3)).2 ((unhide HO).up (unhide BB))).mono ?_
  rintro e w7 ⟨rfl, hb⟩
  have P_ := hide ((unhide P).ups hb)
  clear P
  have P := P_
  clear P_
  have sz3 := hide (hb.size)
  have BB_ := hide (below_y (unhide BB) hb)
  clear BB
  have BB := BB_
  clear BB_
  clear hb
  have Pc0_7 := (unhide P).cell 0 rfl
  have Pc1_7 := (unhide P).cell 1 rfl
  have Pc2_7 := (unhide P).cell 2 rfl
  have Pc3_7 := (unhide P).cell 3 rfl
  have Pc4_7 := (unhide P).cell 4 rfl
  have Pc5_7 := (unhide P).cell 5 rfl
  have Pc6_7 := (unhide P).cell 6 rfl
  cases hq6 : mailsB b with
  | false =>
    have V : Hid (boxOkI b = false) := by show _ = _; rw [unhide VI, unhide hq1, unhide hq2, unhide hq3, unhide hq4, unhide hq5, hq6]; rfl
    clear hq6
    go_wp2
    go_ret
    exact ⟨by rw [unhide V]; rfl, unhide BB⟩
  | true =>
  have hqq := hide hq6
  clear hq6
  have hq6 := hqq
  clear hqq
  have hlm : b.mails.length ≤ 30 := by have := unhide hq6; unfold mailsB at this; rw [Bool.and_eq_true, decide_eq_true_eq] at this; exact this.1
  go_wp2_with fail
  clear Pc0_7 Pc1_7 Pc2_7 Pc3_7 Pc4_7 Pc5_7 Pc6_7
  refine (impl_tombsOk_any b _ _ B _ (unhide HF) (inI_iff.1 (unhide hq3)).1 (inI_iff.1 (unhide hq3)).2 (inI_iff.1 (unhide hq5)).1 (Int.le_trans (inI_iff.1 (unhide hq5)).2 (inI_iff.1 (unhide hq4)).2) ((unhide HO).up (unhide BB))).mono ?_
  rintro e w8 ⟨rfl, hb⟩
  have P_ := hide ((unhide P).ups hb)
  clear P
  have P := P_
  clear P_
  have sz4 := hide (hb.size)
  have BB_ := hide (below_y (unhide BB) hb)
  clear BB
  have BB := BB_
  clear BB_
  clear hb
  have Pc0_8 := (unhide P).cell 0 rfl
  have Pc1_8 := (unhide P).cell 1 rfl
  have Pc2_8 := (unhide P).cell 2 rfl
  have Pc3_8 := (unhide P).cell 3 rfl
  have Pc4_8 := (unhide P).cell 4 rfl
  have Pc5_8 := (unhide P).cell 5 rfl
  have Pc6_8 := (unhide P).cell 6 rfl
  cases hq7 : tombsB b with
  | false =>
    have V : Hid (boxOkI b = false) := by show _ = _; rw [unhide VI, unhide hq1, unhide hq2, unhide hq3, unhide hq4, unhide hq5, unhide hq6, hq7]; rfl
    clear hq7
    go_wp2
    go_ret
    exact ⟨by rw [unhide V]; rfl, unhide BB⟩
  | true =>
  have hqq := hide hq7
  clear hq7
  have hq7 := hqq
  clear hqq
  have hlt : b.tombs.length ≤ 40 := by have := unhide hq7; unfold tombsB at this; rw [Bool.and_eq_true, decide_eq_true_eq] at this; exact this.1
  go_wp2_with fail
  clear Pc0_8 Pc1_8 Pc2_8 Pc3_8 Pc4_8 Pc5_8 Pc6_8
  refine (impl_uidsApart_any b _ _ B _ (by have := hlm; omega) (by have := hlt; omega) ((unhide HO).up (unhide BB))).mono ?_
  rintro e w9 ⟨rfl, hb⟩
  have P_ := hide ((unhide P).ups hb)
  clear P
  have P := P_
  clear P_
  have sz5 := hide (hb.size)
  have BB_ := hide (below_y (unhide BB) hb)
  clear BB
  have BB := BB_
  clear BB_
  clear hb
  have Pc0_9 := (unhide P).cell 0 rfl
  have Pc1_9 := (unhide P).cell 1 rfl
  have Pc2_9 := (unhide P).cell 2 rfl
  have Pc3_9 := (unhide P).cell 3 rfl
  have Pc4_9 := (unhide P).cell 4 rfl
  have Pc5_9 := (unhide P).cell 5 rfl
  have Pc6_9 := (unhide P).cell 6 rfl
  have V : Hid (boxOkI b = apartB b) := by show _ = _; rw [unhide VI, unhide hq1, unhide hq2, unhide hq3, unhide hq4, unhide hq5, unhide hq6, unhide hq7]; rfl
  go_wp2
  go_ret
  exact ⟨by rw [unhide V]; rfl, unhide BB⟩

end Go.Proofs.YtihdgfihdecalaaGreatDoor
