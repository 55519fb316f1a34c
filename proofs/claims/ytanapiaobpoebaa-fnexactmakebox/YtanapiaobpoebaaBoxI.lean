/- Boxes: the program's BoxOk, copiedBox, BoxNew and AddMail. Made by gen_boxoki.py. -/
import Derived.Test.YtanapiaobpoebaaUiA
import Derived.Test.YtanapiaobpoebaaCpA
import Derived.Test.YtanapiaobpoebaaBoxOkS
import Derived.Test.YtanapiaobpoebaaAddMailS
namespace Go.Proofs.Ytanapiaobpoebaa
open Go.RowKit
open Plain
set_option linter.unusedVariables false
set_option linter.unusedSimpArgs false

set_option maxHeartbeats 8000000 in
set_option maxRecDepth 100000 in
theorem impl_BoxOk_any (b : Bx) (m t : Value) (B : Nat) (w : World) (hf : FitBx b) (h : OwnBx B w m t b) :
  Calls Try.prog 34 #[boxV b m t] w fun e w' => e = .returned (.bool (boxOk b)) ∧ Below w.heap.size w w' := by
 rw [← boxOkI_is]
 have HF := hide hf; have HO := hide h
 obtain ⟨am, cm, rfl⟩ := g_shape h.1
 obtain ⟨at1, ct1, rfl⟩ := g_shape h.2
 have VI : Hid (boxOkI b = (nameOkL b.name.data.toList && (inI b.valid 1 9999 && (inI b.next 1 9999 && (inI b.mod 1 100000 && (inI b.hor 0 b.mod && (mailsB b && (tombsB b && apartB b)))))))) := rfl
 clear hf h; have BB := hide (Below.refl w.heap.size w)
 obtain ⟨w1, hP⟩ : ∃ X, X = w.alloc (.cells ([.string b.name, .int .i64 b.valid, .int .i64 b.next, .int .i64 b.mod, .slice am b.mails.length cm, .slice at1 b.tombs.length ct1, .int .i64 b.hor] : List Value).toArray 42) := ⟨_, rfl⟩
 have Px : HasObj w1 w.heap.size 42 [.string b.name, .int .i64 b.valid, .int .i64 b.next, .int .i64 b.mod, .slice am b.mails.length cm, .slice at1 b.tombs.length ct1, .int .i64 b.hor] := by rw [hP]; exact HasObj.new _ _ _
 have hbn : Below w.heap.size w w1 := by rw [hP]; exact (Below.refl _ _).alloc (Nat.le_refl _) _
 have loP : w.heap.size ≤ w.heap.size := (uh BB).size
 have EP := hP.symm; clear hP; have sz1 := hide (hbn.size); replace BB := hide (below_y (uh BB) hbn); clear hbn; have P := hide Px; clear Px; have Pc0_1 := (uh P).cell 0 rfl; have Pc1_1 := (uh P).cell 1 rfl; have Pc2_1 := (uh P).cell 2 rfl; have Pc3_1 := (uh P).cell 3 rfl; have Pc4_1 := (uh P).cell 4 rfl; have Pc5_1 := (uh P).cell 5 rfl; have Pc6_1 := (uh P).cell 6 rfl
 go_enter Try.func34, Try.ntmps34
 go_wp2_with fail; clear Pc0_1 Pc1_1 Pc2_1 Pc3_1 Pc4_1 Pc5_1 Pc6_1 EP
 refine (impl_BoxName_any b.name _ (uh HF).name).mono ?_
 rintro e w2 ⟨rfl, hb⟩
 replace P := hide ((uh P).ups hb); have sz2 := hide (hb.size); replace BB := hide (below_y (uh BB) hb); clear hb; have Pc0_2 := (uh P).cell 0 rfl; have Pc1_2 := (uh P).cell 1 rfl; have Pc2_2 := (uh P).cell 2 rfl; have Pc3_2 := (uh P).cell 3 rfl; have Pc4_2 := (uh P).cell 4 rfl; have Pc5_2 := (uh P).cell 5 rfl; have Pc6_2 := (uh P).cell 6 rfl
 cases hq1 : nameOkL b.name.data.toList with
 | false =>
  have V : Hid (boxOkI b = false) := by show _ = _; rw [uh VI, hq1]; rfl
  clear hq1
  go_wp2
  go_ret
  exact ⟨by rw [uh V]; rfl, uh BB⟩
 | true =>
 have hqq := hide hq1; clear hq1; have hq1 := hqq; clear hqq; go_wp2_with fail; clear Pc0_2 Pc1_2 Pc2_2 Pc3_2 Pc4_2 Pc5_2 Pc6_2
 refine (impl_within_any b.valid 1 9999 _).mono ?_
 rintro e w3 ⟨rfl, hw⟩
 subst w3
 have Pc0_3 := (uh P).cell 0 rfl; have Pc1_3 := (uh P).cell 1 rfl; have Pc2_3 := (uh P).cell 2 rfl; have Pc3_3 := (uh P).cell 3 rfl; have Pc4_3 := (uh P).cell 4 rfl; have Pc5_3 := (uh P).cell 5 rfl; have Pc6_3 := (uh P).cell 6 rfl
 cases hq2 : inI b.valid 1 9999 with
 | false =>
  have V : Hid (boxOkI b = false) := by show _ = _; rw [uh VI, uh hq1, hq2]; rfl
  clear hq2
  go_wp2
  go_ret
  exact ⟨by rw [uh V]; rfl, uh BB⟩
 | true =>
 have hqq := hide hq2; clear hq2; have hq2 := hqq; clear hqq; go_wp2_with fail; clear Pc0_3 Pc1_3 Pc2_3 Pc3_3 Pc4_3 Pc5_3 Pc6_3
 refine (impl_within_any b.next 1 9999 _).mono ?_
 rintro e w4 ⟨rfl, hw⟩
 subst w4
 have Pc0_4 := (uh P).cell 0 rfl; have Pc1_4 := (uh P).cell 1 rfl; have Pc2_4 := (uh P).cell 2 rfl; have Pc3_4 := (uh P).cell 3 rfl; have Pc4_4 := (uh P).cell 4 rfl; have Pc5_4 := (uh P).cell 5 rfl; have Pc6_4 := (uh P).cell 6 rfl
 cases hq3 : inI b.next 1 9999 with
 | false =>
  have V : Hid (boxOkI b = false) := by show _ = _; rw [uh VI, uh hq1, uh hq2, hq3]; rfl
  clear hq3
  go_wp2
  go_ret
  exact ⟨by rw [uh V]; rfl, uh BB⟩
 | true =>
 have hqq := hide hq3; clear hq3; have hq3 := hqq; clear hqq; go_wp2_with fail; clear Pc0_4 Pc1_4 Pc2_4 Pc3_4 Pc4_4 Pc5_4 Pc6_4
 refine (impl_within_any b.mod 1 100000 _).mono ?_
 rintro e w5 ⟨rfl, hw⟩
 subst w5
 have Pc0_5 := (uh P).cell 0 rfl; have Pc1_5 := (uh P).cell 1 rfl; have Pc2_5 := (uh P).cell 2 rfl; have Pc3_5 := (uh P).cell 3 rfl; have Pc4_5 := (uh P).cell 4 rfl; have Pc5_5 := (uh P).cell 5 rfl; have Pc6_5 := (uh P).cell 6 rfl
 cases hq4 : inI b.mod 1 100000 with
 | false =>
  have V : Hid (boxOkI b = false) := by show _ = _; rw [uh VI, uh hq1, uh hq2, uh hq3, hq4]; rfl
  clear hq4
  go_wp2
  go_ret
  exact ⟨by rw [uh V]; rfl, uh BB⟩
 | true =>
 have hqq := hide hq4; clear hq4; have hq4 := hqq; clear hqq; go_wp2_with fail; clear Pc0_5 Pc1_5 Pc2_5 Pc3_5 Pc4_5 Pc5_5 Pc6_5
 refine (impl_within_any b.hor 0 b.mod _).mono ?_
 rintro e w6 ⟨rfl, hw⟩
 subst w6
 have Pc0_6 := (uh P).cell 0 rfl; have Pc1_6 := (uh P).cell 1 rfl; have Pc2_6 := (uh P).cell 2 rfl; have Pc3_6 := (uh P).cell 3 rfl; have Pc4_6 := (uh P).cell 4 rfl; have Pc5_6 := (uh P).cell 5 rfl; have Pc6_6 := (uh P).cell 6 rfl
 cases hq5 : inI b.hor 0 b.mod with
 | false =>
  have V : Hid (boxOkI b = false) := by show _ = _; rw [uh VI, uh hq1, uh hq2, uh hq3, uh hq4, hq5]; rfl
  clear hq5
  go_wp2
  go_ret
  exact ⟨by rw [uh V]; rfl, uh BB⟩
 | true =>
 have hqq := hide hq5; clear hq5; have hq5 := hqq; clear hqq; go_wp2_with fail; clear Pc0_6 Pc1_6 Pc2_6 Pc3_6 Pc4_6 Pc5_6 Pc6_6
 refine (impl_mailsOk_any b _ _ B _ (uh HF) (inI_iff.1 (uh hq3)).1 (inI_iff.1 (uh hq3)).2 ((uh HO).up (uh BB))).mono ?_
 rintro e w7 ⟨rfl, hb⟩
 replace P := hide ((uh P).ups hb); have sz3 := hide (hb.size); replace BB := hide (below_y (uh BB) hb); clear hb; have Pc0_7 := (uh P).cell 0 rfl; have Pc1_7 := (uh P).cell 1 rfl; have Pc2_7 := (uh P).cell 2 rfl; have Pc3_7 := (uh P).cell 3 rfl; have Pc4_7 := (uh P).cell 4 rfl; have Pc5_7 := (uh P).cell 5 rfl; have Pc6_7 := (uh P).cell 6 rfl
 cases hq6 : mailsB b with
 | false =>
  have V : Hid (boxOkI b = false) := by show _ = _; rw [uh VI, uh hq1, uh hq2, uh hq3, uh hq4, uh hq5, hq6]; rfl
  clear hq6
  go_wp2
  go_ret
  exact ⟨by rw [uh V]; rfl, uh BB⟩
 | true =>
 have hqq := hide hq6; clear hq6; have hq6 := hqq; clear hqq
 have hlm : b.mails.length ≤ 30 := by have := uh hq6; unfold mailsB at this; rw [Bool.and_eq_true, decide_eq_true_eq] at this; exact this.1
 go_wp2_with fail; clear Pc0_7 Pc1_7 Pc2_7 Pc3_7 Pc4_7 Pc5_7 Pc6_7
 refine (impl_tombsOk_any b _ _ B _ (uh HF) (inI_iff.1 (uh hq3)).1 (inI_iff.1 (uh hq3)).2 (inI_iff.1 (uh hq5)).1 (Int.le_trans (inI_iff.1 (uh hq5)).2 (inI_iff.1 (uh hq4)).2) ((uh HO).up (uh BB))).mono ?_
 rintro e w8 ⟨rfl, hb⟩
 replace P := hide ((uh P).ups hb); have sz4 := hide (hb.size); replace BB := hide (below_y (uh BB) hb); clear hb; have Pc0_8 := (uh P).cell 0 rfl; have Pc1_8 := (uh P).cell 1 rfl; have Pc2_8 := (uh P).cell 2 rfl; have Pc3_8 := (uh P).cell 3 rfl; have Pc4_8 := (uh P).cell 4 rfl; have Pc5_8 := (uh P).cell 5 rfl; have Pc6_8 := (uh P).cell 6 rfl
 cases hq7 : tombsB b with
 | false =>
  have V : Hid (boxOkI b = false) := by show _ = _; rw [uh VI, uh hq1, uh hq2, uh hq3, uh hq4, uh hq5, uh hq6, hq7]; rfl
  clear hq7
  go_wp2
  go_ret
  exact ⟨by rw [uh V]; rfl, uh BB⟩
 | true =>
 have hqq := hide hq7; clear hq7; have hq7 := hqq; clear hqq
 have hlt : b.tombs.length ≤ 40 := by have := uh hq7; unfold tombsB at this; rw [Bool.and_eq_true, decide_eq_true_eq] at this; exact this.1
 go_wp2_with fail; clear Pc0_8 Pc1_8 Pc2_8 Pc3_8 Pc4_8 Pc5_8 Pc6_8
 refine (impl_uidsApart_any b _ _ B _ (by have := hlm; omega) (by have := hlt; omega) ((uh HO).up (uh BB))).mono ?_
 rintro e w9 ⟨rfl, hb⟩
 replace P := hide ((uh P).ups hb); have sz5 := hide (hb.size); replace BB := hide (below_y (uh BB) hb); clear hb; have Pc0_9 := (uh P).cell 0 rfl; have Pc1_9 := (uh P).cell 1 rfl; have Pc2_9 := (uh P).cell 2 rfl; have Pc3_9 := (uh P).cell 3 rfl; have Pc4_9 := (uh P).cell 4 rfl; have Pc5_9 := (uh P).cell 5 rfl; have Pc6_9 := (uh P).cell 6 rfl
 have V : Hid (boxOkI b = apartB b) := by show _ = _; rw [uh VI, uh hq1, uh hq2, uh hq3, uh hq4, uh hq5, uh hq6, uh hq7]; rfl
 go_wp2
 go_ret
 exact ⟨by rw [uh V]; rfl, uh BB⟩

set_option maxHeartbeats 4000000 in
set_option maxRecDepth 100000 in
theorem copiedBox_any (b : Bx) (m t : Value) (B : Nat) (w : World) (hf : FitBx b) (h : OwnBx B w m t b) :
  Calls Try.prog 35 #[boxV b m t] w fun e w' => ∃ m' t', e = .returned (boxV b m' t') ∧ OwnBx w.heap.size w' m' t' b ∧ Below w.heap.size w w' := by
 have HO := hide h
 obtain ⟨am, cm, rfl⟩ := g_shape h.1
 obtain ⟨at1, ct1, rfl⟩ := g_shape h.2
 clear h; have BB := hide (Below.refl w.heap.size w)
 obtain ⟨w1, hP⟩ : ∃ X, X = w.alloc (.cells ([.string b.name, .int .i64 b.valid, .int .i64 b.next, .int .i64 b.mod, .slice am b.mails.length cm, .slice at1 b.tombs.length ct1, .int .i64 b.hor] : List Value).toArray 42) := ⟨_, rfl⟩
 have Px : HasObj w1 w.heap.size 42 [.string b.name, .int .i64 b.valid, .int .i64 b.next, .int .i64 b.mod, .slice am b.mails.length cm, .slice at1 b.tombs.length ct1, .int .i64 b.hor] := by rw [hP]; exact HasObj.new _ _ _
 have hbn : Below w.heap.size w w1 := by rw [hP]; exact (Below.refl _ _).alloc (Nat.le_refl _) _
 have loP : w.heap.size ≤ w.heap.size := (uh BB).size
 have EP := hP.symm; clear hP; have sz1 := hide (hbn.size); replace BB := hide (below_y (uh BB) hbn); clear hbn; have P := hide Px; clear Px
 obtain ⟨w2, hR⟩ : ∃ X, X = w1.alloc (.cells ([.string ⟨#[]⟩, .int .i64 0, .int .i64 0, .int .i64 0, .slice none 0 0, .slice none 0 0, .int .i64 0] : List Value).toArray 42) := ⟨_, rfl⟩
 have Rx : HasObj w2 w1.heap.size 42 [.string ⟨#[]⟩, .int .i64 0, .int .i64 0, .int .i64 0, .slice none 0 0, .slice none 0 0, .int .i64 0] := by rw [hR]; exact HasObj.new _ _ _
 have hbn : Below w1.heap.size w1 w2 := by rw [hR]; exact (Below.refl _ _).alloc (Nat.le_refl _) _
 have nePR : w.heap.size ≠ w1.heap.size := Nat.ne_of_lt (uh P).lt
 have loR : w.heap.size ≤ w1.heap.size := (uh BB).size
 have ER := hR.symm; clear hR; replace P := hide ((uh P).ups hbn); have sz2 := hide (hbn.size); replace BB := hide (below_y (uh BB) hbn); clear hbn; have R := hide Rx; clear Rx; have Pc0_1 := (uh P).cell 0 rfl; have Pc1_1 := (uh P).cell 1 rfl; have Pc2_1 := (uh P).cell 2 rfl; have Pc3_1 := (uh P).cell 3 rfl; have Pc4_1 := (uh P).cell 4 rfl; have Pc5_1 := (uh P).cell 5 rfl; have Pc6_1 := (uh P).cell 6 rfl
 go_enter Try.func35, Try.ntmps35
 go_wp2_with fail; clear Pc0_1 Pc1_1 Pc2_1 Pc3_1 Pc4_1 Pc5_1 Pc6_1 EP ER
 refine (opened_any b _ _ B _ hf ((uh HO).up (uh BB))).mono ?_
 rintro e w3 ⟨vl, vt, rfl, ol, ot, hb⟩
 obtain ⟨al, cl, rfl⟩ := g_shape ol
 obtain ⟨a2, c2, rfl⟩ := g_shape ot
 replace P := hide ((uh P).ups hb); replace R := hide ((uh R).ups hb); have sz3 := hide (hb.size); replace BB := hide (below_y (uh BB) hb); clear hb
 have OL : Hid (OwnMl w2.heap.size w3 (.slice al b.mails.length cl) (b.mails)) := ol
 have OT : Hid (OwnTb w2.heap.size w3 (.slice a2 b.tombs.length c2) (b.tombs)) := ot
 clear ol ot; go_wp2_with fail
 refine (box_any { b with mails := [] } _ _ _ _ _ _ _ _ _ _).mono ?_
 rintro e w4 ⟨rfl, hb⟩
 replace P := hide ((uh P).ups hb); replace R := hide ((uh R).ups hb); replace OL := hide ((uh OL).up hb); replace OT := hide ((uh OT).up hb); have sz4 := hide (hb.size); replace BB := hide (below_y (uh BB) hb); clear hb; have Rc0_2 := (uh R).cell 0 rfl; have Rc1_2 := (uh R).cell 1 rfl; have Rc2_2 := (uh R).cell 2 rfl; have Rc3_2 := (uh R).cell 3 rfl; have Rc4_2 := (uh R).cell 4 rfl; have Rc5_2 := (uh R).cell 5 rfl; have Rc6_2 := (uh R).cell 6 rfl; have Rf0 := (uh R).frozen 0; have Rf1 := (uh R).frozen 1; have Rf2 := (uh R).frozen 2; have Rf3 := (uh R).frozen 3; have Rf4 := (uh R).frozen 4; have Rf5 := (uh R).frozen 5; have Rf6 := (uh R).frozen 6; have Re0 := (uh R).cell 0 rfl; have Re1 := (uh R).cell 1 rfl; have Re2 := (uh R).cell 2 rfl; have Re3 := (uh R).cell 3 rfl; have Re4 := (uh R).cell 4 rfl; have Re5 := (uh R).cell 5 rfl; have Re6 := (uh R).cell 6 rfl; have F := hide (fill7 (uh R) (.string b.name) (.int .i64 b.valid) (.int .i64 b.next) (.int .i64 b.mod) (.slice al b.mails.length cl) (.slice a2 b.tombs.length c2) (.int .i64 b.hor))
 obtain ⟨U, hU⟩ : ∃ U, U = (((((((w4.setCell ⟨w1.heap.size, 0, none⟩ (.string b.name)).setCell ⟨w1.heap.size, 1, none⟩ (.int .i64 b.valid)).setCell ⟨w1.heap.size, 2, none⟩ (.int .i64 b.next)).setCell ⟨w1.heap.size, 3, none⟩ (.int .i64 b.mod)).setCell ⟨w1.heap.size, 4, none⟩ (.slice al b.mails.length cl)).setCell ⟨w1.heap.size, 5, none⟩ (.slice a2 b.tombs.length c2)).setCell ⟨w1.heap.size, 6, none⟩ (.int .i64 b.hor)) := ⟨_, rfl⟩
 have F9 := uh F
 rw [← hU] at F9
 have EU := hU.symm; clear F hU; have v0 := F9.obj.cell 0 rfl; have v1 := F9.obj.cell 1 rfl; have v2 := F9.obj.cell 2 rfl; have v3 := F9.obj.cell 3 rfl; have v4 := F9.obj.cell 4 rfl; have v5 := F9.obj.cell 5 rfl; have v6 := F9.obj.cell 6 rfl; have F := hide F9; clear F9
 go_wp2_with (refine bodyPost_ret (by simp [results, Try.results35, go_sem, v0, v1, v2, v3, v4, v5, v6]; try rfl) rfl ?_)
 clear EU; have F := uh F
 exact ⟨_, _, rfl, ⟨g_based (F.row (by decide) (uh OL)) (by have sz1_ := uh sz1; have sz2_ := uh sz2; have sz3_ := uh sz3; have sz4_ := uh sz4; omega), g_based (F.row (by decide) (uh OT)) (by have sz1_ := uh sz1; have sz2_ := uh sz2; have sz3_ := uh sz3; have sz4_ := uh sz4; omega)⟩, F.below loR (uh BB)⟩

set_option maxHeartbeats 4000000 in
set_option maxRecDepth 100000 in
theorem impl_BoxNew_any (name : ByteArray) (valid : Int) (w : World) (hs : name.size ≤ 1048576) :
  Calls Try.prog 22 #[.string name, .int .i64 valid] w fun e w' => e = .returned (.tuple #[boxV (newV name valid).1 (.slice none 0 0) (.slice none 0 0), .bool (newV name valid).2]) ∧ Below w.heap.size w w' := by
 have FN : Hid (FitBx (newBox name valid)) := ⟨hs, Nat.zero_le _, fun m hm => by simp [newBox] at hm, Nat.zero_le _⟩
 have V : Hid (newV name valid = if boxOk (newBox name valid) = true then (newBox name valid, true) else (noBox, false)) := rfl
 have BB := hide (Below.refl w.heap.size w)
 obtain ⟨w1, hR⟩ : ∃ X, X = w.alloc (.cells ([.string ⟨#[]⟩, .int .i64 0, .int .i64 0, .int .i64 0, .slice none 0 0, .slice none 0 0, .int .i64 0] : List Value).toArray 42) := ⟨_, rfl⟩
 have Rx : HasObj w1 w.heap.size 42 [.string ⟨#[]⟩, .int .i64 0, .int .i64 0, .int .i64 0, .slice none 0 0, .slice none 0 0, .int .i64 0] := by rw [hR]; exact HasObj.new _ _ _
 have hbn : Below w.heap.size w w1 := by rw [hR]; exact (Below.refl _ _).alloc (Nat.le_refl _) _
 have loR : w.heap.size ≤ w.heap.size := (uh BB).size
 have ER := hR.symm; clear hR; have sz1 := hide (hbn.size); replace BB := hide (below_y (uh BB) hbn); clear hbn; have R := hide Rx; clear Rx
 go_enter Try.func22, Try.ntmps22
 go_wp2_with fail; clear ER
 refine (Clone_any name _ (by omega)).mono ?_
 rintro e w2 ⟨rfl, hb⟩
 replace R := hide ((uh R).ups hb); have sz2 := hide (hb.size); replace BB := hide (below_y (uh BB) hb); clear hb
 obtain ⟨w3, hQ⟩ : ∃ X, X = w2.alloc (.cells ([.string name, .int .i64 valid, .int .i64 1, .int .i64 1, .slice none 0 0, .slice none 0 0, .int .i64 0] : List Value).toArray 42) := ⟨_, rfl⟩
 have Qx : HasObj w3 w2.heap.size 42 [.string name, .int .i64 valid, .int .i64 1, .int .i64 1, .slice none 0 0, .slice none 0 0, .int .i64 0] := by rw [hQ]; exact HasObj.new _ _ _
 have hbn : Below w2.heap.size w2 w3 := by rw [hQ]; exact (Below.refl _ _).alloc (Nat.le_refl _) _
 have neRQ : w.heap.size ≠ w2.heap.size := Nat.ne_of_lt (uh R).lt
 have loQ : w.heap.size ≤ w2.heap.size := (uh BB).size
 have EQ := hQ.symm; clear hQ; replace R := hide ((uh R).ups hbn); have sz3 := hide (hbn.size); replace BB := hide (below_y (uh BB) hbn); clear hbn; have Q := hide Qx; clear Qx; have EQ_ := hide EQ; clear EQ; have Qc0_1 := (uh Q).cell 0 rfl; have Qc1_1 := (uh Q).cell 1 rfl; have Qc2_1 := (uh Q).cell 2 rfl; have Qc3_1 := (uh Q).cell 3 rfl; have Qc4_1 := (uh Q).cell 4 rfl; have Qc5_1 := (uh Q).cell 5 rfl; have Qc6_1 := (uh Q).cell 6 rfl; go_wp2_with fail
 first | rw [show _ = _ from uh EQ_] | skip
 clear Qc0_1 Qc1_1 Qc2_1 Qc3_1 Qc4_1 Qc5_1 Qc6_1
 refine (impl_BoxOk_any (newBox name valid) (.slice none 0 0) (.slice none 0 0) 0 _ (uh FN) ⟨World.ownsRow_nil _ _ _ _, World.ownsRow_nil _ _ _ _⟩).mono ?_
 rintro e w4 ⟨rfl, hb⟩
 replace R := hide ((uh R).ups hb); replace Q := hide ((uh Q).ups hb); have sz4 := hide (hb.size); replace BB := hide (below_y (uh BB) hb); clear hb; clear EQ_
 generalize boxOk (newBox name valid) = q at *
 cases q with
 | false =>
  have Qc0_2 := (uh Q).cell 0 rfl; have Qc1_2 := (uh Q).cell 1 rfl; have Qc2_2 := (uh Q).cell 2 rfl; have Qc3_2 := (uh Q).cell 3 rfl; have Qc4_2 := (uh Q).cell 4 rfl; have Qc5_2 := (uh Q).cell 5 rfl; have Qc6_2 := (uh Q).cell 6 rfl; have Rf0 := (uh R).frozen 0; have Rf1 := (uh R).frozen 1; have Rf2 := (uh R).frozen 2; have Rf3 := (uh R).frozen 3; have Rf4 := (uh R).frozen 4; have Rf5 := (uh R).frozen 5; have Rf6 := (uh R).frozen 6; have Re0 := (uh R).cell 0 rfl; have Re1 := (uh R).cell 1 rfl; have Re2 := (uh R).cell 2 rfl; have Re3 := (uh R).cell 3 rfl; have Re4 := (uh R).cell 4 rfl; have Re5 := (uh R).cell 5 rfl; have Re6 := (uh R).cell 6 rfl
  have F := hide (fill7 (uh R) (.string ⟨#[]⟩) (.int .i64 0) (.int .i64 0) (.int .i64 0) (.slice none 0 0) (.slice none 0 0) (.int .i64 0))
  obtain ⟨U, hU⟩ : ∃ U, U = (((((((w4.setCell ⟨w.heap.size, 0, none⟩ (.string ⟨#[]⟩)).setCell ⟨w.heap.size, 1, none⟩ (.int .i64 0)).setCell ⟨w.heap.size, 2, none⟩ (.int .i64 0)).setCell ⟨w.heap.size, 3, none⟩ (.int .i64 0)).setCell ⟨w.heap.size, 4, none⟩ (.slice none 0 0)).setCell ⟨w.heap.size, 5, none⟩ (.slice none 0 0)).setCell ⟨w.heap.size, 6, none⟩ (.int .i64 0)) := ⟨_, rfl⟩
  have F9 := uh F
  rw [← hU] at F9
  have EU := hU.symm; clear F hU; have v0 := F9.obj.cell 0 rfl; have v1 := F9.obj.cell 1 rfl; have v2 := F9.obj.cell 2 rfl; have v3 := F9.obj.cell 3 rfl; have v4 := F9.obj.cell 4 rfl; have v5 := F9.obj.cell 5 rfl; have v6 := F9.obj.cell 6 rfl; have F := hide F9; clear F9
  go_wp2_with (refine bodyPost_ret (by simp [results, Try.results22, go_sem, v0, v1, v2, v3, v4, v5, v6]; try rfl) rfl ?_)
  clear EU; have F := uh F
  exact ⟨by rw [uh V]; rfl, F.below loR (uh BB)⟩
 | true =>
  have Qc0_2 := (uh Q).cell 0 rfl; have Qc1_2 := (uh Q).cell 1 rfl; have Qc2_2 := (uh Q).cell 2 rfl; have Qc3_2 := (uh Q).cell 3 rfl; have Qc4_2 := (uh Q).cell 4 rfl; have Qc5_2 := (uh Q).cell 5 rfl; have Qc6_2 := (uh Q).cell 6 rfl; have Rf0 := (uh R).frozen 0; have Rf1 := (uh R).frozen 1; have Rf2 := (uh R).frozen 2; have Rf3 := (uh R).frozen 3; have Rf4 := (uh R).frozen 4; have Rf5 := (uh R).frozen 5; have Rf6 := (uh R).frozen 6; have Re0 := (uh R).cell 0 rfl; have Re1 := (uh R).cell 1 rfl; have Re2 := (uh R).cell 2 rfl; have Re3 := (uh R).cell 3 rfl; have Re4 := (uh R).cell 4 rfl; have Re5 := (uh R).cell 5 rfl; have Re6 := (uh R).cell 6 rfl; have F := hide (fill7 (uh R) (.string name) (.int .i64 valid) (.int .i64 1) (.int .i64 1) (.slice none 0 0) (.slice none 0 0) (.int .i64 0))
  obtain ⟨U, hU⟩ : ∃ U, U = (((((((w4.setCell ⟨w.heap.size, 0, none⟩ (.string name)).setCell ⟨w.heap.size, 1, none⟩ (.int .i64 valid)).setCell ⟨w.heap.size, 2, none⟩ (.int .i64 1)).setCell ⟨w.heap.size, 3, none⟩ (.int .i64 1)).setCell ⟨w.heap.size, 4, none⟩ (.slice none 0 0)).setCell ⟨w.heap.size, 5, none⟩ (.slice none 0 0)).setCell ⟨w.heap.size, 6, none⟩ (.int .i64 0)) := ⟨_, rfl⟩
  have F9 := uh F
  rw [← hU] at F9
  have EU := hU.symm; clear F hU; have v0 := F9.obj.cell 0 rfl; have v1 := F9.obj.cell 1 rfl; have v2 := F9.obj.cell 2 rfl; have v3 := F9.obj.cell 3 rfl; have v4 := F9.obj.cell 4 rfl; have v5 := F9.obj.cell 5 rfl; have v6 := F9.obj.cell 6 rfl; have F := hide F9; clear F9
  go_wp2_with (refine bodyPost_ret (by simp [results, Try.results22, go_sem, v0, v1, v2, v3, v4, v5, v6]; try rfl) rfl ?_)
  clear EU; have F := uh F
  exact ⟨by rw [uh V]; rfl, F.below loR (uh BB)⟩

end Go.Proofs.Ytanapiaobpoebaa
