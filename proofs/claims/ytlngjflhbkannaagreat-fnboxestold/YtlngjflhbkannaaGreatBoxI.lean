/- Boxes: the program's BoxOk, copiedBox, BoxNew and AddMail. Made by gen_boxoki.py. -/
import Derived.Test.YtlngjflhbkannaaGreatTv
import Derived.Test.YtlngjflhbkannaaGreatUiA
import Derived.Test.YtlngjflhbkannaaGreatCpA
import Derived.Test.YtlngjflhbkannaaGreatBoxOkS
import Derived.Test.YtlngjflhbkannaaGreatAddMailS
namespace Go.Proofs.YtlngjflhbkannaaGreat
open Go.RowKit
open Plain
set_option linter.unusedVariables false
set_option linter.unusedSimpArgs false

set_option maxHeartbeats 8000000 in
set_option maxRecDepth 100000 in
theorem impl_BoxOk_any (b : Bx) (m t : Value) (B : Nat) (w : World) (hf : FitBx b) (h : OwnBx B w m t b) :
  Calls Tryz.prog 34 #[boxV b m t] w fun e w' => e = .returned (.bool (boxOk b)) ∧ Below w.heap.size w w' := by
 rw [← boxOkI_is]
 have HF := hide hf; have HO := hide h
 obtain ⟨am, cm, rfl⟩ := g_shape h.1
 obtain ⟨at1, ct1, rfl⟩ := g_shape h.2
 have VI : Hid (boxOkI b = (nameOkL b.name.data.toList && (inI b.valid 1 9999 && (inI b.next 1 9999 && (inI b.mod 1 100000 && (inI b.hor 0 b.mod && (mailsB b && (tombsB b && apartB b)))))))) := rfl
 clear hf h; have BB := hide (Below.refl w.heap.size w)
 obtain ⟨w1, hP⟩ : ∃ X, X = w.alloc (.cells ([.string b.name, .int .i64 b.valid, .int .i64 b.next, .int .i64 b.mod, .slice am b.mails.length cm, .slice at1 b.tombs.length ct1, .int .i64 b.hor] : List Value).toArray 50) := ⟨_, rfl⟩
 have Px : HasObj w1 w.heap.size 50 [.string b.name, .int .i64 b.valid, .int .i64 b.next, .int .i64 b.mod, .slice am b.mails.length cm, .slice at1 b.tombs.length ct1, .int .i64 b.hor] := by rw [hP]; exact HasObj.new _ _ _
 have hbn : Below w.heap.size w w1 := by rw [hP]; exact (Below.refl _ _).alloc (Nat.le_refl _) _
 have loP : w.heap.size ≤ w.heap.size := (uh BB).size
 have EP := hP.symm; clear hP; have sz1 := hide (hbn.size); replace BB := hide (below_y (uh BB) hbn); clear hbn; have P := hide Px; clear Px; have Pc0_1 := (uh P).cell 0 rfl; have Pc1_1 := (uh P).cell 1 rfl; have Pc2_1 := (uh P).cell 2 rfl; have Pc3_1 := (uh P).cell 3 rfl; have Pc4_1 := (uh P).cell 4 rfl; have Pc5_1 := (uh P).cell 5 rfl; have Pc6_1 := (uh P).cell 6 rfl
 go_enter Tryz.func34, Tryz.ntmps34
 go_wp2_with fail; clear Pc0_1 Pc1_1 Pc2_1 Pc3_1 Pc4_1 Pc5_1 Pc6_1 EP
 refine (impl_BoxName_any b.name _ (uh HF).name).mono ?_
 rintro e w2 ⟨rfl, hb⟩
 replace P := hide ((uh P).ups hb); have sz2 := hide (hb.size); replace BB := hide (below_y (uh BB) hb); clear hb; have Pc0_2 := (uh P).cell 0 rfl; have Pc1_2 := (uh P).cell 1 rfl; have Pc2_2 := (uh P).cell 2 rfl; have Pc3_2 := (uh P).cell 3 rfl; have Pc4_2 := (uh P).cell 4 rfl; have Pc5_2 := (uh P).cell 5 rfl; have Pc6_2 := (uh P).cell 6 rfl
 cases hq1 : nameOkL b.name.data.toList with
 | false =>
  have V : Hid (boxOkI b = false) := by show _ = _; rw [uh VI, hq1]; rfl
  clear hq1
  go_wp2
  go_ret
  exact ⟨by rw [uh V]; rfl, uh BB⟩
 | true =>
 have hqq := hide hq1; clear hq1; have hq1 := hqq; clear hqq; go_wp2_with fail; clear Pc0_2 Pc1_2 Pc2_2 Pc3_2 Pc4_2 Pc5_2 Pc6_2
 refine (impl_within_any b.valid 1 9999 _).mono ?_
 rintro e w3 ⟨rfl, hw⟩
 subst w3
 have Pc0_3 := (uh P).cell 0 rfl; have Pc1_3 := (uh P).cell 1 rfl; have Pc2_3 := (uh P).cell 2 rfl; have Pc3_3 := (uh P).cell 3 rfl; have Pc4_3 := (uh P).cell 4 rfl; have Pc5_3 := (uh P).cell 5 rfl; have Pc6_3 := (uh P).cell 6 rfl
 cases hq2 : inI b.valid 1 9999 with
 | false =>
  have V : Hid (boxOkI b = false) := by show _ = _; rw [uh VI, uh hq1, hq2]; rfl
  clear hq2
  go_wp2
  go_ret
  exact ⟨by rw [uh V]; rfl, uh BB⟩
 | true =>
 have hqq := hide hq2; clear hq2; have hq2 := hqq; clear hqq; go_wp2_with fail; clear Pc0_3 Pc1_3 Pc2_3 Pc3_3 Pc4_3 Pc5_3 Pc6_3
 refine (impl_within_any b.next 1 9999 _).mono ?_
 rintro e w4 ⟨rfl, hw⟩
 subst w4
 have Pc0_4 := (uh P).cell 0 rfl; have Pc1_4 := (uh P).cell 1 rfl; have Pc2_4 := (uh P).cell 2 rfl; have Pc3_4 := (uh P).cell 3 rfl; have Pc4_4 := (uh P).cell 4 rfl; have Pc5_4 := (uh P).cell 5 rfl; have Pc6_4 := (uh P).cell 6 rfl
 cases hq3 : inI b.next 1 9999 with
 | false =>
  have V : Hid (boxOkI b = false) := by show _ = _; rw [uh VI, uh hq1, uh hq2, hq3]; rfl
  clear hq3
  go_wp2
  go_ret
  exact ⟨by rw [uh V]; rfl, uh BB⟩
 | true =>
 have hqq := hide hq3; clear hq3; have hq3 := hqq; clear hqq; go_wp2_with fail; clear Pc0_4 Pc1_4 Pc2_4 Pc3_4 Pc4_4 Pc5_4 Pc6_4
 refine (impl_within_any b.mod 1 100000 _).mono ?_
 rintro e w5 ⟨rfl, hw⟩
 subst w5
 have Pc0_5 := (uh P).cell 0 rfl; have Pc1_5 := (uh P).cell 1 rfl; have Pc2_5 := (uh P).cell 2 rfl; have Pc3_5 := (uh P).cell 3 rfl; have Pc4_5 := (uh P).cell 4 rfl; have Pc5_5 := (uh P).cell 5 rfl; have Pc6_5 := (uh P).cell 6 rfl
 cases hq4 : inI b.mod 1 100000 with
 | false =>
  have V : Hid (boxOkI b = false) := by show _ = _; rw [uh VI, uh hq1, uh hq2, uh hq3, hq4]; rfl
  clear hq4
  go_wp2
  go_ret
  exact ⟨by rw [uh V]; rfl, uh BB⟩
 | true =>
 have hqq := hide hq4; clear hq4; have hq4 := hqq; clear hqq; go_wp2_with fail; clear Pc0_5 Pc1_5 Pc2_5 Pc3_5 Pc4_5 Pc5_5 Pc6_5
 refine (impl_within_any b.hor 0 b.mod _).mono ?_
 rintro e w6 ⟨rfl, hw⟩
 subst w6
 have Pc0_6 := (uh P).cell 0 rfl; have Pc1_6 := (uh P).cell 1 rfl; have Pc2_6 := (uh P).cell 2 rfl; have Pc3_6 := (uh P).cell 3 rfl; have Pc4_6 := (uh P).cell 4 rfl; have Pc5_6 := (uh P).cell 5 rfl; have Pc6_6 := (uh P).cell 6 rfl
 cases hq5 : inI b.hor 0 b.mod with
 | false =>
  have V : Hid (boxOkI b = false) := by show _ = _; rw [uh VI, uh hq1, uh hq2, uh hq3, uh hq4, hq5]; rfl
  clear hq5
  go_wp2
  go_ret
  exact ⟨by rw [uh V]; rfl, uh BB⟩
 | true =>
 have hqq := hide hq5; clear hq5; have hq5 := hqq; clear hqq; go_wp2_with fail; clear Pc0_6 Pc1_6 Pc2_6 Pc3_6 Pc4_6 Pc5_6 Pc6_6
 refine (impl_mailsOk_any b _ _ B _ (uh HF) (inI_iff.1 (uh hq3)).1 (inI_iff.1 (uh hq3)).2 ((uh HO).up (uh BB))).mono ?_
 rintro e w7 ⟨rfl, hb⟩
 replace P := hide ((uh P).ups hb); have sz3 := hide (hb.size); replace BB := hide (below_y (uh BB) hb); clear hb; have Pc0_7 := (uh P).cell 0 rfl; have Pc1_7 := (uh P).cell 1 rfl; have Pc2_7 := (uh P).cell 2 rfl; have Pc3_7 := (uh P).cell 3 rfl; have Pc4_7 := (uh P).cell 4 rfl; have Pc5_7 := (uh P).cell 5 rfl; have Pc6_7 := (uh P).cell 6 rfl
 cases hq6 : mailsB b with
 | false =>
  have V : Hid (boxOkI b = false) := by show _ = _; rw [uh VI, uh hq1, uh hq2, uh hq3, uh hq4, uh hq5, hq6]; rfl
  clear hq6
  go_wp2
  go_ret
  exact ⟨by rw [uh V]; rfl, uh BB⟩
 | true =>
 have hqq := hide hq6; clear hq6; have hq6 := hqq; clear hqq
 have hlm : b.mails.length ≤ 30 := by have := uh hq6; unfold mailsB at this; rw [Bool.and_eq_true, decide_eq_true_eq] at this; exact this.1
 go_wp2_with fail; clear Pc0_7 Pc1_7 Pc2_7 Pc3_7 Pc4_7 Pc5_7 Pc6_7
 refine (impl_tombsOk_any b _ _ B _ (uh HF) (inI_iff.1 (uh hq3)).1 (inI_iff.1 (uh hq3)).2 (inI_iff.1 (uh hq5)).1 (Int.le_trans (inI_iff.1 (uh hq5)).2 (inI_iff.1 (uh hq4)).2) ((uh HO).up (uh BB))).mono ?_
 rintro e w8 ⟨rfl, hb⟩
 replace P := hide ((uh P).ups hb); have sz4 := hide (hb.size); replace BB := hide (below_y (uh BB) hb); clear hb; have Pc0_8 := (uh P).cell 0 rfl; have Pc1_8 := (uh P).cell 1 rfl; have Pc2_8 := (uh P).cell 2 rfl; have Pc3_8 := (uh P).cell 3 rfl; have Pc4_8 := (uh P).cell 4 rfl; have Pc5_8 := (uh P).cell 5 rfl; have Pc6_8 := (uh P).cell 6 rfl
 cases hq7 : tombsB b with
 | false =>
  have V : Hid (boxOkI b = false) := by show _ = _; rw [uh VI, uh hq1, uh hq2, uh hq3, uh hq4, uh hq5, uh hq6, hq7]; rfl
  clear hq7
  go_wp2
  go_ret
  exact ⟨by rw [uh V]; rfl, uh BB⟩
 | true =>
 have hqq := hide hq7; clear hq7; have hq7 := hqq; clear hqq
 have hlt : b.tombs.length ≤ 40 := by have := uh hq7; unfold tombsB at this; rw [Bool.and_eq_true, decide_eq_true_eq] at this; exact this.1
 go_wp2_with fail; clear Pc0_8 Pc1_8 Pc2_8 Pc3_8 Pc4_8 Pc5_8 Pc6_8
 refine (impl_uidsApart_any b _ _ B _ (by have := hlm; omega) (by have := hlt; omega) ((uh HO).up (uh BB))).mono ?_
 rintro e w9 ⟨rfl, hb⟩
 replace P := hide ((uh P).ups hb); have sz5 := hide (hb.size); replace BB := hide (below_y (uh BB) hb); clear hb; have Pc0_9 := (uh P).cell 0 rfl; have Pc1_9 := (uh P).cell 1 rfl; have Pc2_9 := (uh P).cell 2 rfl; have Pc3_9 := (uh P).cell 3 rfl; have Pc4_9 := (uh P).cell 4 rfl; have Pc5_9 := (uh P).cell 5 rfl; have Pc6_9 := (uh P).cell 6 rfl
 have V : Hid (boxOkI b = apartB b) := by show _ = _; rw [uh VI, uh hq1, uh hq2, uh hq3, uh hq4, uh hq5, uh hq6, uh hq7]; rfl
 go_wp2
 go_ret
 exact ⟨by rw [uh V]; rfl, uh BB⟩

set_option maxHeartbeats 4000000 in
set_option maxRecDepth 100000 in
theorem copiedBox_any (b : Bx) (m t : Value) (B : Nat) (w : World) (hf : FitBx b) (h : OwnBx B w m t b) :
  Calls Tryz.prog 64 #[boxV b m t] w fun e w' => ∃ m' t', e = .returned (boxV b m' t') ∧ OwnBx w.heap.size w' m' t' b ∧ Below w.heap.size w w' := by
 have HO := hide h
 obtain ⟨am, cm, rfl⟩ := g_shape h.1
 obtain ⟨at1, ct1, rfl⟩ := g_shape h.2
 clear h; have BB := hide (Below.refl w.heap.size w)
 obtain ⟨w1, hP⟩ : ∃ X, X = w.alloc (.cells ([.string b.name, .int .i64 b.valid, .int .i64 b.next, .int .i64 b.mod, .slice am b.mails.length cm, .slice at1 b.tombs.length ct1, .int .i64 b.hor] : List Value).toArray 50) := ⟨_, rfl⟩
 have Px : HasObj w1 w.heap.size 50 [.string b.name, .int .i64 b.valid, .int .i64 b.next, .int .i64 b.mod, .slice am b.mails.length cm, .slice at1 b.tombs.length ct1, .int .i64 b.hor] := by rw [hP]; exact HasObj.new _ _ _
 have hbn : Below w.heap.size w w1 := by rw [hP]; exact (Below.refl _ _).alloc (Nat.le_refl _) _
 have loP : w.heap.size ≤ w.heap.size := (uh BB).size
 have EP := hP.symm; clear hP; have sz1 := hide (hbn.size); replace BB := hide (below_y (uh BB) hbn); clear hbn; have P := hide Px; clear Px
 obtain ⟨w2, hR⟩ : ∃ X, X = w1.alloc (.cells ([.string ⟨#[]⟩, .int .i64 0, .int .i64 0, .int .i64 0, .slice none 0 0, .slice none 0 0, .int .i64 0] : List Value).toArray 50) := ⟨_, rfl⟩
 have Rx : HasObj w2 w1.heap.size 50 [.string ⟨#[]⟩, .int .i64 0, .int .i64 0, .int .i64 0, .slice none 0 0, .slice none 0 0, .int .i64 0] := by rw [hR]; exact HasObj.new _ _ _
 have hbn : Below w1.heap.size w1 w2 := by rw [hR]; exact (Below.refl _ _).alloc (Nat.le_refl _) _
 have nePR : w.heap.size ≠ w1.heap.size := Nat.ne_of_lt (uh P).lt
 have loR : w.heap.size ≤ w1.heap.size := (uh BB).size
 have ER := hR.symm; clear hR; replace P := hide ((uh P).ups hbn); have sz2 := hide (hbn.size); replace BB := hide (below_y (uh BB) hbn); clear hbn; have R := hide Rx; clear Rx; have Pc0_1 := (uh P).cell 0 rfl; have Pc1_1 := (uh P).cell 1 rfl; have Pc2_1 := (uh P).cell 2 rfl; have Pc3_1 := (uh P).cell 3 rfl; have Pc4_1 := (uh P).cell 4 rfl; have Pc5_1 := (uh P).cell 5 rfl; have Pc6_1 := (uh P).cell 6 rfl
 go_enter Tryz.func64, Tryz.ntmps64
 go_wp2_with fail; clear Pc0_1 Pc1_1 Pc2_1 Pc3_1 Pc4_1 Pc5_1 Pc6_1 EP ER
 refine (opened_any b _ _ B _ hf ((uh HO).up (uh BB))).mono ?_
 rintro e w3 ⟨vl, vt, rfl, ol, ot, hb⟩
 obtain ⟨al, cl, rfl⟩ := g_shape ol
 obtain ⟨a2, c2, rfl⟩ := g_shape ot
 replace P := hide ((uh P).ups hb); replace R := hide ((uh R).ups hb); have sz3 := hide (hb.size); replace BB := hide (below_y (uh BB) hb); clear hb
 have OL : Hid (OwnMl w2.heap.size w3 (.slice al b.mails.length cl) (b.mails)) := ol
 have OT : Hid (OwnTb w2.heap.size w3 (.slice a2 b.tombs.length c2) (b.tombs)) := ot
 clear ol ot; go_wp2_with fail
 refine (box_any { b with mails := [] } _ _ _ _ _ _ _ _ _ _).mono ?_
 rintro e w4 ⟨rfl, hb⟩
 replace P := hide ((uh P).ups hb); replace R := hide ((uh R).ups hb); replace OL := hide ((uh OL).up hb); replace OT := hide ((uh OT).up hb); have sz4 := hide (hb.size); replace BB := hide (below_y (uh BB) hb); clear hb; have Rc0_2 := (uh R).cell 0 rfl; have Rc1_2 := (uh R).cell 1 rfl; have Rc2_2 := (uh R).cell 2 rfl; have Rc3_2 := (uh R).cell 3 rfl; have Rc4_2 := (uh R).cell 4 rfl; have Rc5_2 := (uh R).cell 5 rfl; have Rc6_2 := (uh R).cell 6 rfl; have Rf0 := (uh R).frozen 0; have Rf1 := (uh R).frozen 1; have Rf2 := (uh R).frozen 2; have Rf3 := (uh R).frozen 3; have Rf4 := (uh R).frozen 4; have Rf5 := (uh R).frozen 5; have Rf6 := (uh R).frozen 6; have Re0 := (uh R).cell 0 rfl; have Re1 := (uh R).cell 1 rfl; have Re2 := (uh R).cell 2 rfl; have Re3 := (uh R).cell 3 rfl; have Re4 := (uh R).cell 4 rfl; have Re5 := (uh R).cell 5 rfl; have Re6 := (uh R).cell 6 rfl; have F := hide (fill7 (uh R) (.string b.name) (.int .i64 b.valid) (.int .i64 b.next) (.int .i64 b.mod) (.slice al b.mails.length cl) (.slice a2 b.tombs.length c2) (.int .i64 b.hor))
 obtain ⟨U, hU⟩ : ∃ U, U = (((((((w4.setCell ⟨w1.heap.size, 0, none⟩ (.string b.name)).setCell ⟨w1.heap.size, 1, none⟩ (.int .i64 b.valid)).setCell ⟨w1.heap.size, 2, none⟩ (.int .i64 b.next)).setCell ⟨w1.heap.size, 3, none⟩ (.int .i64 b.mod)).setCell ⟨w1.heap.size, 4, none⟩ (.slice al b.mails.length cl)).setCell ⟨w1.heap.size, 5, none⟩ (.slice a2 b.tombs.length c2)).setCell ⟨w1.heap.size, 6, none⟩ (.int .i64 b.hor)) := ⟨_, rfl⟩
 have F9 := uh F
 rw [← hU] at F9
 have EU := hU.symm; clear F hU; have v0 := F9.obj.cell 0 rfl; have v1 := F9.obj.cell 1 rfl; have v2 := F9.obj.cell 2 rfl; have v3 := F9.obj.cell 3 rfl; have v4 := F9.obj.cell 4 rfl; have v5 := F9.obj.cell 5 rfl; have v6 := F9.obj.cell 6 rfl; have F := hide F9; clear F9
 go_wp2_with (refine bodyPost_ret (by simp [results, Tryz.results64, go_sem, v0, v1, v2, v3, v4, v5, v6]; try rfl) rfl ?_)
 clear EU; have F := uh F
 exact ⟨_, _, rfl, ⟨g_based (F.row (by decide) (uh OL)) (by have sz1_ := uh sz1; have sz2_ := uh sz2; have sz3_ := uh sz3; have sz4_ := uh sz4; omega), g_based (F.row (by decide) (uh OT)) (by have sz1_ := uh sz1; have sz2_ := uh sz2; have sz3_ := uh sz3; have sz4_ := uh sz4; omega)⟩, F.below loR (uh BB)⟩

set_option maxHeartbeats 4000000 in
set_option maxRecDepth 100000 in
theorem impl_BoxNew_any (name : ByteArray) (valid : Int) (w : World) (hs : name.size ≤ 1048576) :
  Calls Tryz.prog 28 #[.string name, .int .i64 valid] w fun e w' => e = .returned (.tuple #[boxV (newV name valid).1 (.slice none 0 0) (.slice none 0 0), .bool (newV name valid).2]) ∧ Below w.heap.size w w' := by
 have FN : Hid (FitBx (newBox name valid)) := ⟨hs, Nat.zero_le _, fun m hm => by simp [newBox] at hm, Nat.zero_le _⟩
 have V : Hid (newV name valid = if boxOk (newBox name valid) = true then (newBox name valid, true) else (noBox, false)) := rfl
 have BB := hide (Below.refl w.heap.size w)
 obtain ⟨w1, hR⟩ : ∃ X, X = w.alloc (.cells ([.string ⟨#[]⟩, .int .i64 0, .int .i64 0, .int .i64 0, .slice none 0 0, .slice none 0 0, .int .i64 0] : List Value).toArray 50) := ⟨_, rfl⟩
 have Rx : HasObj w1 w.heap.size 50 [.string ⟨#[]⟩, .int .i64 0, .int .i64 0, .int .i64 0, .slice none 0 0, .slice none 0 0, .int .i64 0] := by rw [hR]; exact HasObj.new _ _ _
 have hbn : Below w.heap.size w w1 := by rw [hR]; exact (Below.refl _ _).alloc (Nat.le_refl _) _
 have loR : w.heap.size ≤ w.heap.size := (uh BB).size
 have ER := hR.symm; clear hR; have sz1 := hide (hbn.size); replace BB := hide (below_y (uh BB) hbn); clear hbn; have R := hide Rx; clear Rx
 go_enter Tryz.func28, Tryz.ntmps28
 go_wp2_with fail; clear ER
 refine (Clone_any name _ (by omega)).mono ?_
 rintro e w2 ⟨rfl, hb⟩
 replace R := hide ((uh R).ups hb); have sz2 := hide (hb.size); replace BB := hide (below_y (uh BB) hb); clear hb
 obtain ⟨w3, hQ⟩ : ∃ X, X = w2.alloc (.cells ([.string name, .int .i64 valid, .int .i64 1, .int .i64 1, .slice none 0 0, .slice none 0 0, .int .i64 0] : List Value).toArray 50) := ⟨_, rfl⟩
 have Qx : HasObj w3 w2.heap.size 50 [.string name, .int .i64 valid, .int .i64 1, .int .i64 1, .slice none 0 0, .slice none 0 0, .int .i64 0] := by rw [hQ]; exact HasObj.new _ _ _
 have hbn : Below w2.heap.size w2 w3 := by rw [hQ]; exact (Below.refl _ _).alloc (Nat.le_refl _) _
 have neRQ : w.heap.size ≠ w2.heap.size := Nat.ne_of_lt (uh R).lt
 have loQ : w.heap.size ≤ w2.heap.size := (uh BB).size
 have EQ := hQ.symm; clear hQ; replace R := hide ((uh R).ups hbn); have sz3 := hide (hbn.size); replace BB := hide (below_y (uh BB) hbn); clear hbn; have Q := hide Qx; clear Qx; have EQ_ := hide EQ; clear EQ; have Qc0_1 := (uh Q).cell 0 rfl; have Qc1_1 := (uh Q).cell 1 rfl; have Qc2_1 := (uh Q).cell 2 rfl; have Qc3_1 := (uh Q).cell 3 rfl; have Qc4_1 := (uh Q).cell 4 rfl; have Qc5_1 := (uh Q).cell 5 rfl; have Qc6_1 := (uh Q).cell 6 rfl; go_wp2_with fail
 first | rw [show _ = _ from uh EQ_] | skip
 clear Qc0_1 Qc1_1 Qc2_1 Qc3_1 Qc4_1 Qc5_1 Qc6_1
 refine (impl_BoxOk_any (newBox name valid) (.slice none 0 0) (.slice none 0 0) 0 _ (uh FN) ⟨World.ownsRow_nil _ _ _ _, World.ownsRow_nil _ _ _ _⟩).mono ?_
 rintro e w4 ⟨rfl, hb⟩
 replace R := hide ((uh R).ups hb); replace Q := hide ((uh Q).ups hb); have sz4 := hide (hb.size); replace BB := hide (below_y (uh BB) hb); clear hb; clear EQ_
 generalize boxOk (newBox name valid) = q at *
 cases q with
 | false =>
  have Qc0_2 := (uh Q).cell 0 rfl; have Qc1_2 := (uh Q).cell 1 rfl; have Qc2_2 := (uh Q).cell 2 rfl; have Qc3_2 := (uh Q).cell 3 rfl; have Qc4_2 := (uh Q).cell 4 rfl; have Qc5_2 := (uh Q).cell 5 rfl; have Qc6_2 := (uh Q).cell 6 rfl; have Rf0 := (uh R).frozen 0; have Rf1 := (uh R).frozen 1; have Rf2 := (uh R).frozen 2; have Rf3 := (uh R).frozen 3; have Rf4 := (uh R).frozen 4; have Rf5 := (uh R).frozen 5; have Rf6 := (uh R).frozen 6; have Re0 := (uh R).cell 0 rfl; have Re1 := (uh R).cell 1 rfl; have Re2 := (uh R).cell 2 rfl; have Re3 := (uh R).cell 3 rfl; have Re4 := (uh R).cell 4 rfl; have Re5 := (uh R).cell 5 rfl; have Re6 := (uh R).cell 6 rfl
  have F := hide (fill7 (uh R) (.string ⟨#[]⟩) (.int .i64 0) (.int .i64 0) (.int .i64 0) (.slice none 0 0) (.slice none 0 0) (.int .i64 0))
  obtain ⟨U, hU⟩ : ∃ U, U = (((((((w4.setCell ⟨w.heap.size, 0, none⟩ (.string ⟨#[]⟩)).setCell ⟨w.heap.size, 1, none⟩ (.int .i64 0)).setCell ⟨w.heap.size, 2, none⟩ (.int .i64 0)).setCell ⟨w.heap.size, 3, none⟩ (.int .i64 0)).setCell ⟨w.heap.size, 4, none⟩ (.slice none 0 0)).setCell ⟨w.heap.size, 5, none⟩ (.slice none 0 0)).setCell ⟨w.heap.size, 6, none⟩ (.int .i64 0)) := ⟨_, rfl⟩
  have F9 := uh F
  rw [← hU] at F9
  have EU := hU.symm; clear F hU; have v0 := F9.obj.cell 0 rfl; have v1 := F9.obj.cell 1 rfl; have v2 := F9.obj.cell 2 rfl; have v3 := F9.obj.cell 3 rfl; have v4 := F9.obj.cell 4 rfl; have v5 := F9.obj.cell 5 rfl; have v6 := F9.obj.cell 6 rfl; have F := hide F9; clear F9
  go_wp2_with (refine bodyPost_ret (by simp [results, Tryz.results28, go_sem, v0, v1, v2, v3, v4, v5, v6]; try rfl) rfl ?_)
  clear EU; have F := uh F
  exact ⟨by rw [uh V]; rfl, F.below loR (uh BB)⟩
 | true =>
  have Qc0_2 := (uh Q).cell 0 rfl; have Qc1_2 := (uh Q).cell 1 rfl; have Qc2_2 := (uh Q).cell 2 rfl; have Qc3_2 := (uh Q).cell 3 rfl; have Qc4_2 := (uh Q).cell 4 rfl; have Qc5_2 := (uh Q).cell 5 rfl; have Qc6_2 := (uh Q).cell 6 rfl; have Rf0 := (uh R).frozen 0; have Rf1 := (uh R).frozen 1; have Rf2 := (uh R).frozen 2; have Rf3 := (uh R).frozen 3; have Rf4 := (uh R).frozen 4; have Rf5 := (uh R).frozen 5; have Rf6 := (uh R).frozen 6; have Re0 := (uh R).cell 0 rfl; have Re1 := (uh R).cell 1 rfl; have Re2 := (uh R).cell 2 rfl; have Re3 := (uh R).cell 3 rfl; have Re4 := (uh R).cell 4 rfl; have Re5 := (uh R).cell 5 rfl; have Re6 := (uh R).cell 6 rfl; have F := hide (fill7 (uh R) (.string name) (.int .i64 valid) (.int .i64 1) (.int .i64 1) (.slice none 0 0) (.slice none 0 0) (.int .i64 0))
  obtain ⟨U, hU⟩ : ∃ U, U = (((((((w4.setCell ⟨w.heap.size, 0, none⟩ (.string name)).setCell ⟨w.heap.size, 1, none⟩ (.int .i64 valid)).setCell ⟨w.heap.size, 2, none⟩ (.int .i64 1)).setCell ⟨w.heap.size, 3, none⟩ (.int .i64 1)).setCell ⟨w.heap.size, 4, none⟩ (.slice none 0 0)).setCell ⟨w.heap.size, 5, none⟩ (.slice none 0 0)).setCell ⟨w.heap.size, 6, none⟩ (.int .i64 0)) := ⟨_, rfl⟩
  have F9 := uh F
  rw [← hU] at F9
  have EU := hU.symm; clear F hU; have v0 := F9.obj.cell 0 rfl; have v1 := F9.obj.cell 1 rfl; have v2 := F9.obj.cell 2 rfl; have v3 := F9.obj.cell 3 rfl; have v4 := F9.obj.cell 4 rfl; have v5 := F9.obj.cell 5 rfl; have v6 := F9.obj.cell 6 rfl; have F := hide F9; clear F9
  go_wp2_with (refine bodyPost_ret (by simp [results, Tryz.results28, go_sem, v0, v1, v2, v3, v4, v5, v6]; try rfl) rfl ?_)
  clear EU; have F := uh F
  exact ⟨by rw [uh V]; rfl, F.below loR (uh BB)⟩

set_option maxHeartbeats 16000000 in
set_option maxRecDepth 100000 in
theorem impl_AddMail_any (b : Bx) (m t : Value) (B : Nat) (flags : Int) (text : ByteArray) (w : World) (hf : FitBx b) (hm30 : b.mails.length ≤ 1048576) (ht : text.size ≤ 1048576) (h : OwnBx B w m t b) :
  Calls Tryz.prog 18 #[boxV b m t, .int .i64 flags, .string text] w fun e w' => ∃ m' t', e = .returned (.tuple #[boxV (addV b flags text).1 m' t', .int .i64 (addV b flags text).2]) ∧ OwnBx w.heap.size w' m' t' (addV b flags text).1 ∧ Below w.heap.size w w' := by
 obtain ⟨iM, hM, hM0, hM1, hM2⟩ := info_parts Tryz.infoMail
 have hl1 := hf.mails; have hl2 := hf.tombs; have HF := hide hf; have HO := hide h
 obtain ⟨am, cm, rfl⟩ := g_shape h.1
 obtain ⟨at1, ct1, rfl⟩ := g_shape h.2
 have V1 := hide (fun hq => addV_no1 (b := b) (flags := flags) (text := text) hq)
 have V2 := hide (fun hq => addV_no2 (b := b) (flags := flags) (text := text) hq)
 have V3 := hide (fun h1 h2 => addV_yes (b := b) (flags := flags) (text := text) h1 h2)
 have FA : Hid (FitBx (added b flags text)) := ⟨hf.name, by show (b.mails ++ [_]).length ≤ 4000000; rw [List.length_append]; show b.mails.length + 1 ≤ _; omega, fun x hx => by
  rcases List.mem_append.1 (show x ∈ b.mails ++ [⟨b.next, flags, b.mod + 1, text⟩] from hx) with hx | hx
  ·exact hf.texts x hx
  ·have : x = ⟨b.next, flags, b.mod + 1, text⟩ := by simpa using hx
   rw [this]; exact ht, hf.tombs⟩
 clear h hf; have BB := hide (Below.refl w.heap.size w)
 obtain ⟨w1, hP⟩ : ∃ X, X = w.alloc (.cells ([.string b.name, .int .i64 b.valid, .int .i64 b.next, .int .i64 b.mod, .slice am b.mails.length cm, .slice at1 b.tombs.length ct1, .int .i64 b.hor] : List Value).toArray 50) := ⟨_, rfl⟩
 have Px : HasObj w1 w.heap.size 50 [.string b.name, .int .i64 b.valid, .int .i64 b.next, .int .i64 b.mod, .slice am b.mails.length cm, .slice at1 b.tombs.length ct1, .int .i64 b.hor] := by rw [hP]; exact HasObj.new _ _ _
 have hbn : Below w.heap.size w w1 := by rw [hP]; exact (Below.refl _ _).alloc (Nat.le_refl _) _
 have loP : w.heap.size ≤ w.heap.size := (uh BB).size
 have EP := hP.symm; clear hP; have sz1 := hide (hbn.size); replace BB := hide (below_y (uh BB) hbn); clear hbn; have P := hide Px; clear Px
 obtain ⟨w2, hR⟩ : ∃ X, X = w1.alloc (.cells ([.string ⟨#[]⟩, .int .i64 0, .int .i64 0, .int .i64 0, .slice none 0 0, .slice none 0 0, .int .i64 0] : List Value).toArray 50) := ⟨_, rfl⟩
 have Rx : HasObj w2 w1.heap.size 50 [.string ⟨#[]⟩, .int .i64 0, .int .i64 0, .int .i64 0, .slice none 0 0, .slice none 0 0, .int .i64 0] := by rw [hR]; exact HasObj.new _ _ _
 have hbn : Below w1.heap.size w1 w2 := by rw [hR]; exact (Below.refl _ _).alloc (Nat.le_refl _) _
 have nePR : w.heap.size ≠ w1.heap.size := Nat.ne_of_lt (uh P).lt
 have loR : w.heap.size ≤ w1.heap.size := (uh BB).size
 have ER := hR.symm; clear hR; replace P := hide ((uh P).ups hbn); have sz2 := hide (hbn.size); replace BB := hide (below_y (uh BB) hbn); clear hbn; have R := hide Rx; clear Rx; have Pc0_1 := (uh P).cell 0 rfl; have Pc1_1 := (uh P).cell 1 rfl; have Pc2_1 := (uh P).cell 2 rfl; have Pc3_1 := (uh P).cell 3 rfl; have Pc4_1 := (uh P).cell 4 rfl; have Pc5_1 := (uh P).cell 5 rfl; have Pc6_1 := (uh P).cell 6 rfl
 go_enter Tryz.func18, Tryz.ntmps18
 go_wp2_with fail; clear Pc0_1 Pc1_1 Pc2_1 Pc3_1 Pc4_1 Pc5_1 Pc6_1 EP ER
 refine (impl_BoxOk_any b _ _ B _ (uh HF) ((uh HO).up (uh BB))).mono ?_
 rintro e w3 ⟨rfl, hb⟩
 replace P := hide ((uh P).ups hb); replace R := hide ((uh R).ups hb); have sz3 := hide (hb.size); replace BB := hide (below_y (uh BB) hb); clear hb
 cases hq1 : boxOk b with
 | false =>
  have Pc0_2 := (uh P).cell 0 rfl; have Pc1_2 := (uh P).cell 1 rfl; have Pc2_2 := (uh P).cell 2 rfl; have Pc3_2 := (uh P).cell 3 rfl; have Pc4_2 := (uh P).cell 4 rfl; have Pc5_2 := (uh P).cell 5 rfl; have Pc6_2 := (uh P).cell 6 rfl; go_wp2_with fail; clear Pc0_2 Pc1_2 Pc2_2 Pc3_2 Pc4_2 Pc5_2 Pc6_2
  refine (copiedBox_any b _ _ B _ (uh HF) ((uh HO).up (uh BB))).mono ?_
  rintro e w4 ⟨vm, vt, rfl, ob, hb⟩
  obtain ⟨am7, cm7, rfl⟩ := g_shape ob.1
  obtain ⟨at7, ct7, rfl⟩ := g_shape ob.2
  replace P := hide ((uh P).ups hb); replace R := hide ((uh R).ups hb); have sz4 := hide (hb.size); replace BB := hide (below_y (uh BB) hb); clear hb; have OM7 := hide ob.1; have OT7 := hide ob.2; clear ob; have V := hide (uh V1 hq1); have Rf0 := (uh R).frozen 0; have Rf1 := (uh R).frozen 1; have Rf2 := (uh R).frozen 2; have Rf3 := (uh R).frozen 3; have Rf4 := (uh R).frozen 4; have Rf5 := (uh R).frozen 5; have Rf6 := (uh R).frozen 6; have Re0 := (uh R).cell 0 rfl; have Re1 := (uh R).cell 1 rfl; have Re2 := (uh R).cell 2 rfl; have Re3 := (uh R).cell 3 rfl; have Re4 := (uh R).cell 4 rfl; have Re5 := (uh R).cell 5 rfl; have Re6 := (uh R).cell 6 rfl; have F := hide (fill7 (uh R) (.string b.name) (.int .i64 b.valid) (.int .i64 b.next) (.int .i64 b.mod) (.slice am7 b.mails.length cm7) (.slice at7 b.tombs.length ct7) (.int .i64 b.hor))
  obtain ⟨U, hU⟩ : ∃ U, U = (((((((w4.setCell ⟨w1.heap.size, 0, none⟩ (.string b.name)).setCell ⟨w1.heap.size, 1, none⟩ (.int .i64 b.valid)).setCell ⟨w1.heap.size, 2, none⟩ (.int .i64 b.next)).setCell ⟨w1.heap.size, 3, none⟩ (.int .i64 b.mod)).setCell ⟨w1.heap.size, 4, none⟩ (.slice am7 b.mails.length cm7)).setCell ⟨w1.heap.size, 5, none⟩ (.slice at7 b.tombs.length ct7)).setCell ⟨w1.heap.size, 6, none⟩ (.int .i64 b.hor)) := ⟨_, rfl⟩
  have F9 := uh F
  rw [← hU] at F9
  have EU := hU.symm; clear F hU; have v0 := F9.obj.cell 0 rfl; have v1 := F9.obj.cell 1 rfl; have v2 := F9.obj.cell 2 rfl; have v3 := F9.obj.cell 3 rfl; have v4 := F9.obj.cell 4 rfl; have v5 := F9.obj.cell 5 rfl; have v6 := F9.obj.cell 6 rfl; have F := hide F9; clear F9
  go_wp2_with (refine bodyPost_ret (by simp [results, Tryz.results18, go_sem, v0, v1, v2, v3, v4, v5, v6]; try rfl) rfl ?_)
  clear EU; have F := uh F
  refine ⟨_, _, by rw [uh V], ?_, F.below loR (uh BB)⟩
  rw [uh V]
  exact ⟨g_based (F.row (by decide) (uh OM7)) (by have sz1_ := uh sz1; have sz2_ := uh sz2; have sz3_ := uh sz3; have sz4_ := uh sz4; omega), g_based (F.row (by decide) (uh OT7)) (by have sz1_ := uh sz1; have sz2_ := uh sz2; have sz3_ := uh sz3; have sz4_ := uh sz4; omega)⟩
 | true =>
  obtain ⟨_, _, g2, g3, _, _, _⟩ := head_parts (boxOk_iff.1 hq1).1
  have hn := inI_iff.1 g2; have hmo := inI_iff.1 g3; clear g2 g3; have HQ1 := hide hq1; clear hq1
  have nn : IntKind.i64.wrap (b.next + 1) = b.next + 1 := by rw [IntKind.wrap_i64]; omega
  have nm : IntKind.i64.wrap (b.mod + 1) = b.mod + 1 := by rw [IntKind.wrap_i64]; omega
  have Pc0_2 := (uh P).cell 0 rfl; have Pc1_2 := (uh P).cell 1 rfl; have Pc2_2 := (uh P).cell 2 rfl; have Pc3_2 := (uh P).cell 3 rfl; have Pc4_2 := (uh P).cell 4 rfl; have Pc5_2 := (uh P).cell 5 rfl; have Pc6_2 := (uh P).cell 6 rfl; go_wp2_with fail; clear Pc0_2 Pc1_2 Pc2_2 Pc3_2 Pc4_2 Pc5_2 Pc6_2
  refine (opened_any b _ _ B _ (uh HF) ((uh HO).up (uh BB))).mono ?_
  rintro e w4 ⟨vl, vt, rfl, ol, ot, hb⟩
  obtain ⟨al, cl, rfl⟩ := g_shape ol
  obtain ⟨a2, c2, rfl⟩ := g_shape ot
  replace P := hide ((uh P).ups hb); replace R := hide ((uh R).ups hb); have sz4 := hide (hb.size); replace BB := hide (below_y (uh BB) hb); clear hb
  have OL : Hid (OwnMl w3.heap.size w4 (.slice al b.mails.length cl) (b.mails)) := ol
  have OT : Hid (OwnTb w3.heap.size w4 (.slice a2 b.tombs.length c2) (b.tombs)) := ot
  clear ol ot
  obtain ⟨w5, hQ⟩ : ∃ X, X = w4.alloc (.cells ([.slice al b.mails.length cl, .string b.name, .int .i64 b.valid, .int .i64 b.next, .int .i64 b.mod, .slice none 0 0, .slice a2 b.tombs.length c2, .int .i64 b.hor] : List Value).toArray 97) := ⟨_, rfl⟩
  have Qx : HasObj w5 w4.heap.size 97 [.slice al b.mails.length cl, .string b.name, .int .i64 b.valid, .int .i64 b.next, .int .i64 b.mod, .slice none 0 0, .slice a2 b.tombs.length c2, .int .i64 b.hor] := by rw [hQ]; exact HasObj.new _ _ _
  have hbn : Below w4.heap.size w4 w5 := by rw [hQ]; exact (Below.refl _ _).alloc (Nat.le_refl _) _
  have nePQ : w.heap.size ≠ w4.heap.size := Nat.ne_of_lt (uh P).lt
  have neRQ : w1.heap.size ≠ w4.heap.size := Nat.ne_of_lt (uh R).lt
  have loQ : w.heap.size ≤ w4.heap.size := (uh BB).size
  have EQ := hQ.symm; clear hQ; replace P := hide ((uh P).ups hbn); replace R := hide ((uh R).ups hbn); replace OL := hide ((uh OL).up hbn); replace OT := hide ((uh OT).up hbn); have sz5 := hide (hbn.size); replace BB := hide (below_y (uh BB) hbn); clear hbn; have Q := hide Qx; clear Qx; have Qc0_3 := (uh Q).cell 0 rfl; have Qc1_3 := (uh Q).cell 1 rfl; have Qc2_3 := (uh Q).cell 2 rfl; have Qc3_3 := (uh Q).cell 3 rfl; have Qc4_3 := (uh Q).cell 4 rfl; have Qc5_3 := (uh Q).cell 5 rfl; have Qc6_3 := (uh Q).cell 6 rfl; have Qc7_3 := (uh Q).cell 7 rfl; have Qfz3_4 := (uh Q).frozen 3; have Qcz3_4 := (uh Q).cell 3 rfl
  obtain ⟨w6, hst⟩ : ∃ X, X = w5.setCell ⟨w4.heap.size, 3, none⟩ (.int .i64 (b.next + 1)) := ⟨_, rfl⟩
  have OL_ : Hid (OwnMl w3.heap.size w6 (.slice al b.mails.length cl) (b.mails)) := by show OwnMl _ _ _ _; rw [hst]; exact (uh Q).row (j := 3) (by decide) (uh OL) _
  have OT_ : Hid (OwnTb w3.heap.size w6 (.slice a2 b.tombs.length c2) (b.tombs)) := by show OwnTb _ _ _ _; rw [hst]; exact (uh Q).row (j := 3) (by decide) (uh OT) _
  have P_ := hide ((uh P).other (j := 3) nePQ (.int .i64 (b.next + 1)))
  rw [← hst] at P_
  have R_ := hide ((uh R).other (j := 3) neRQ (.int .i64 (b.next + 1)))
  rw [← hst] at R_
  have Q_ := hide ((uh Q).set 3 (.int .i64 (b.next + 1)))
  rw [← hst] at Q_
  have BB_ := hide ((uh BB).setCell (p := ⟨w4.heap.size, 3, none⟩) (show w.heap.size ≤ w4.heap.size from loQ) (.int .i64 (b.next + 1)))
  rw [← hst] at BB_
  have sz6 : Hid (w5.heap.size ≤ w6.heap.size) := by show _ ≤ _; rw [hst]; simp
  replace OL := OL_; clear OL_; replace OT := OT_; clear OT_; replace P := P_; clear P_; replace R := R_; clear R_; replace Q := Q_; clear Q_; replace BB := BB_; clear BB_; have Est6 := hst.symm; clear hst; have Qc0_5 := (uh Q).cell 0 rfl; have Qc1_5 := (uh Q).cell 1 rfl; have Qc2_5 := (uh Q).cell 2 rfl; have Qc3_5 := (uh Q).cell 3 rfl; have Qc4_5 := (uh Q).cell 4 rfl; have Qc5_5 := (uh Q).cell 5 rfl; have Qc6_5 := (uh Q).cell 6 rfl; have Qc7_5 := (uh Q).cell 7 rfl; have Qfz4_6 := (uh Q).frozen 4; have Qcz4_6 := (uh Q).cell 4 rfl
  obtain ⟨w7, hst⟩ : ∃ X, X = w6.setCell ⟨w4.heap.size, 4, none⟩ (.int .i64 (b.mod + 1)) := ⟨_, rfl⟩
  have OL_ : Hid (OwnMl w3.heap.size w7 (.slice al b.mails.length cl) (b.mails)) := by show OwnMl _ _ _ _; rw [hst]; exact (uh Q).row (j := 4) (by decide) (uh OL) _
  have OT_ : Hid (OwnTb w3.heap.size w7 (.slice a2 b.tombs.length c2) (b.tombs)) := by show OwnTb _ _ _ _; rw [hst]; exact (uh Q).row (j := 4) (by decide) (uh OT) _
  have P_ := hide ((uh P).other (j := 4) nePQ (.int .i64 (b.mod + 1)))
  rw [← hst] at P_
  have R_ := hide ((uh R).other (j := 4) neRQ (.int .i64 (b.mod + 1)))
  rw [← hst] at R_
  have Q_ := hide ((uh Q).set 4 (.int .i64 (b.mod + 1)))
  rw [← hst] at Q_
  have BB_ := hide ((uh BB).setCell (p := ⟨w4.heap.size, 4, none⟩) (show w.heap.size ≤ w4.heap.size from loQ) (.int .i64 (b.mod + 1)))
  rw [← hst] at BB_
  have sz7 : Hid (w6.heap.size ≤ w7.heap.size) := by show _ ≤ _; rw [hst]; simp
  replace OL := OL_; clear OL_; replace OT := OT_; clear OT_; replace P := P_; clear P_; replace R := R_; clear R_; replace Q := Q_; clear Q_; replace BB := BB_; clear BB_; have Est7 := hst.symm; clear hst; have Qc0_7 := (uh Q).cell 0 rfl; have Qc1_7 := (uh Q).cell 1 rfl; have Qc2_7 := (uh Q).cell 2 rfl; have Qc3_7 := (uh Q).cell 3 rfl; have Qc4_7 := (uh Q).cell 4 rfl; have Qc5_7 := (uh Q).cell 5 rfl; have Qc6_7 := (uh Q).cell 6 rfl; have Qc7_7 := (uh Q).cell 7 rfl; have Pc0_8 := (uh P).cell 0 rfl; have Pc1_8 := (uh P).cell 1 rfl; have Pc2_8 := (uh P).cell 2 rfl; have Pc3_8 := (uh P).cell 3 rfl; have Pc4_8 := (uh P).cell 4 rfl; have Pc5_8 := (uh P).cell 5 rfl; have Pc6_8 := (uh P).cell 6 rfl
  go_wp2
  refine lateBegin (S := fun w' => w'.cell? ⟨w4.heap.size, 0, none⟩ = some (.slice al b.mails.length cl) ∧ w'.cell? ⟨w.heap.size, 2, none⟩ = some (.int .i64 b.next) ∧ w'.cell? ⟨w4.heap.size, 4, none⟩ = some (.int .i64 (b.mod + 1))) 14 (by kernel_rfl) (⟨(uh Q).cell 0 rfl, (uh P).cell 2 rfl, (uh Q).cell 4 rfl⟩) (fun hHeld => ?_)
  clear Qc0_3 Qc1_3 Qc2_3 Qc3_3 Qc4_3 Qc5_3 Qc6_3 Qc7_3 Qfz3_4 Qcz3_4 Qc0_5 Qc1_5 Qc2_5 Qc3_5 Qc4_5 Qc5_5 Qc6_5 Qc7_5 Qfz4_6 Qcz4_6 Qc0_7 Qc1_7 Qc2_7 Qc3_7 Qc4_7 Qc5_7 Qc6_7 Qc7_7 Pc0_8 Pc1_8 Pc2_8 Pc3_8 Pc4_8 Pc5_8 Pc6_8 EQ Est6 Est7; replace P := hide ((uh P).drew); replace R := hide ((uh R).drew); replace Q := hide ((uh Q).drew); replace OL := hide ((uh OL).drew); replace OT := hide ((uh OT).drew); replace BB := hide ((uh BB).drew)
  have sz8 : Hid (w7.heap.size ≤ w7.drew.heap.size) := Nat.le_refl _
  refine lt 0 29 ?_; refine lt 1 30 ?_; refine lt 2 31 ?_; refine lt 3 32 ?_; refine lt 4 33 ?_; refine lt 5 34 ?_; refine lt 6 35 ?_; refine lt 7 36 ?_; refine lt 8 37 ?_; refine lt 9 38 ?_
  refine lateStep 10 (by kernel_rfl) rfl (by rfl) (fun K hK => ?_)
  go_simp
  refine (copiedMail_any (⟨b.next, flags, b.mod + 1, text⟩ : Ml) _ (Nat.le_trans ht (by decide))).mono ?_
  rintro e w8 ⟨rfl, hb⟩
  replace P := hide ((uh P).ups hb); replace R := hide ((uh R).ups hb); replace Q := hide ((uh Q).ups hb); replace OL := hide ((uh OL).up hb); replace OT := hide ((uh OT).up hb); have sz9 := hide (hb.size); replace BB := hide (below_y (uh BB) hb); clear hb; go_wp2_with fail
  refine hK.out _ _ (⟨(uh Q).cell 0 rfl, (uh P).cell 2 rfl, (uh Q).cell 4 rfl⟩) (fun hHeld2 => ?_)
  clear hK K hHeld; have hHeld := hHeld2; clear hHeld2
  try simp only [Act.put, p1, p2, p3]
  refine lateStep 11 (by kernel_rfl) rfl (by rfl) (fun K hK => ?_)
  go_simp
  have hA : Below w8.heap.size w8 (w8.alloc (.cells ((mlC (⟨b.next, flags, b.mod + 1, text⟩ : Ml)) : List Value).toArray 100)) := (Below.refl _ _).alloc (Nat.le_refl _) _
  replace P := hide ((uh P).ups hA); replace R := hide ((uh R).ups hA); replace Q := hide ((uh Q).ups hA); replace OL := hide ((uh OL).up hA); replace OT := hide ((uh OT).up hA); have sz10 := hide (hA.size); replace BB := hide (below_y (uh BB) hA); clear hA
  refine hK.out _ _ (⟨(uh Q).cell 0 rfl, (uh P).cell 2 rfl, (uh Q).cell 4 rfl⟩) (fun hHeld2 => ?_)
  clear hK K hHeld; have hHeld := hHeld2; clear hHeld2
  try simp only [Act.put, p1, p2, p3]
  have oa := uh OL; have ldl := (uh BB).size
  refine lateStep 12 (by kernel_rfl) rfl (by rfl) (fun K hK => ?_)
  refine wp_append_lies _ (.tmp 30) (.tmp 40) 95 rfl (w3.heap.size) 100 iM _ 4 40 Tryz.underlying95 hM hM0 hM1 hM2 rfl (by decide) (.slice al b.mails.length cl) _ _ rfl oa ⟨w8.heap.size, 0, none⟩ 1 1 (mlC (⟨b.next, flags, b.mod + 1, text⟩ : Ml)) rfl rfl (newsC _ _) ?c2 (by decide) ?c3 ?c4 ?c5 (w8.heap.size + 1) (by simp) ?_
  case c2 => intro u hu; simp [mlC, tbC, rgl] at hu; (try rcases hu with rfl | rfl | rfl | rfl) <;> (try rcases hu with rfl | rfl) <;> (try subst hu) <;> rfl
  case c3 => unfold maxLen; omega
  case c4 => omega
  case c5 => have q1_ := (uh BB).size; have sz1_ := uh sz1; have sz2_ := uh sz2; have sz3_ := uh sz3; have sz4_ := uh sz4; have sz5_ := uh sz5; have sz6_ := uh sz6; have sz7_ := uh sz7; have sz8_ := uh sz8; have sz9_ := uh sz9; have sz10_ := uh sz10; (try simp at q1_); (try simp); omega
  intro g9 cap9 w9 hown hgr hat hlt_
  have P_ := hide ((uh P).kept hgr (fun e => (uh P).not_row (by decide) oa e.symm))
  have R_ := hide ((uh R).kept hgr (fun e => (uh R).not_row (by decide) oa e.symm))
  have Q_ := hide ((uh Q).kept hgr (fun e => (uh Q).not_row (by decide) oa e.symm))
  have OT_ : Hid (OwnTb w3.heap.size w9 (.slice a2 b.tombs.length c2) (b.tombs)) := g_aside (uh OT) hgr (fun x hx => rows_apart oa (uh OT) (by decide) x hx)
  have OL_ : Hid (OwnMl (w3.heap.size) w9 (.slice (some ⟨g9, 0, none⟩) (b.mails.length + 1) cap9) (b.mails ++ [(⟨b.next, flags, b.mod + 1, text⟩ : Ml)])) := by exact OwnMl.snoc hown
  have BB_ : Hid (Below w.heap.size w w9) := (uh BB).grown hgr (uh BB).size (fun b hb => by have q2_ := (World.ownsRow.lt oa b hb).1; have sz1_ := uh sz1; have sz2_ := uh sz2; have sz3_ := uh sz3; have sz4_ := uh sz4; have sz5_ := uh sz5; have sz6_ := uh sz6; have sz7_ := uh sz7; have sz8_ := uh sz8; have sz9_ := uh sz9; have sz10_ := uh sz10; omega)
  have sz11 : Hid ((w8.alloc (.cells ((mlC (⟨b.next, flags, b.mod + 1, text⟩ : Ml)) : List Value).toArray 100)).heap.size ≤ w9.heap.size) := hgr.size
  replace P := P_; clear P_; replace R := R_; clear R_; replace Q := Q_; clear Q_; replace OL := OL_; clear OL_; replace OT := OT_; clear OT_; replace BB := BB_; clear BB_; clear hown hgr hat hlt_ oa ldl
  refine hK.out _ _ (⟨(uh Q).cell 0 rfl, (uh P).cell 2 rfl, (uh Q).cell 4 rfl⟩) (fun hHeld2 => ?_)
  clear hK K hHeld; have hHeld := hHeld2; clear hHeld2
  try simp only [Act.put, p1, p2, p3]
  refine lt 13 42 ?_
  have Qfz0_9 := (uh Q).frozen 0; have Qcz0_9 := (uh Q).cell 0 rfl
  obtain ⟨w10, hst⟩ : ∃ X, X = w9.setCell ⟨w4.heap.size, 0, none⟩ (.slice (some ⟨g9, 0, none⟩) (b.mails.length + 1) cap9) := ⟨_, rfl⟩
  have OL_ : Hid (OwnMl w3.heap.size w10 (.slice (some ⟨g9, 0, none⟩) (b.mails.length + 1) cap9) (b.mails ++ [(⟨b.next, flags, b.mod + 1, text⟩ : Ml)])) := by show OwnMl _ _ _ _; rw [hst]; exact (uh Q).row (j := 0) (by decide) (uh OL) _
  have OT_ : Hid (OwnTb w3.heap.size w10 (.slice a2 b.tombs.length c2) (b.tombs)) := by show OwnTb _ _ _ _; rw [hst]; exact (uh Q).row (j := 0) (by decide) (uh OT) _
  have P_ := hide ((uh P).other (j := 0) nePQ (.slice (some ⟨g9, 0, none⟩) (b.mails.length + 1) cap9))
  rw [← hst] at P_
  have R_ := hide ((uh R).other (j := 0) neRQ (.slice (some ⟨g9, 0, none⟩) (b.mails.length + 1) cap9))
  rw [← hst] at R_
  have Q_ := hide ((uh Q).set 0 (.slice (some ⟨g9, 0, none⟩) (b.mails.length + 1) cap9))
  rw [← hst] at Q_
  have BB_ := hide ((uh BB).setCell (p := ⟨w4.heap.size, 0, none⟩) (show w.heap.size ≤ w4.heap.size from loQ) (.slice (some ⟨g9, 0, none⟩) (b.mails.length + 1) cap9))
  rw [← hst] at BB_
  have sz12 : Hid (w9.heap.size ≤ w10.heap.size) := by show _ ≤ _; rw [hst]; simp
  replace OL := OL_; clear OL_; replace OT := OT_; clear OT_; replace P := P_; clear P_; replace R := R_; clear R_; replace Q := Q_; clear Q_; replace BB := BB_; clear BB_; have Est12 := hst.symm; clear hst
  refine lateLast 14 (by decide) (by kernel_rfl) rfl (by rfl) (fun K hK => ?_)
  go_simp
  refine hK.out _ _ ?_
  clear hK K hHeld
  try simp only [Act.put, p1, p2, p3]
  try rw [Est12]
  clear Qfz0_9 Qcz0_9 Est12
  refine lateDone (by kernel_rfl) ?_ _
  have OB_ : Hid (OwnBx w.heap.size w10 (.slice (some ⟨g9, 0, none⟩) (b.mails.length + 1) cap9) (.slice a2 b.tombs.length c2) (added b flags text)) := ⟨g_based (uh OL) (by have sz1_ := uh sz1; have sz2_ := uh sz2; have sz3_ := uh sz3; have sz4_ := uh sz4; have sz5_ := uh sz5; have sz6_ := uh sz6; have sz7_ := uh sz7; have sz8_ := uh sz8; have sz9_ := uh sz9; have sz10_ := uh sz10; have sz11_ := uh sz11; have sz12_ := uh sz12; omega), g_based (uh OT) (by have sz1_ := uh sz1; have sz2_ := uh sz2; have sz3_ := uh sz3; have sz4_ := uh sz4; have sz5_ := uh sz5; have sz6_ := uh sz6; have sz7_ := uh sz7; have sz8_ := uh sz8; have sz9_ := uh sz9; have sz10_ := uh sz10; have sz11_ := uh sz11; have sz12_ := uh sz12; omega)⟩
  clear OL OT; have OA := OB_; clear OB_; have Qc0_10 := (uh Q).cell 0 rfl; have Qc1_10 := (uh Q).cell 1 rfl; have Qc2_10 := (uh Q).cell 2 rfl; have Qc3_10 := (uh Q).cell 3 rfl; have Qc4_10 := (uh Q).cell 4 rfl; have Qc5_10 := (uh Q).cell 5 rfl; have Qc6_10 := (uh Q).cell 6 rfl; have Qc7_10 := (uh Q).cell 7 rfl; go_wp2_with fail; clear Qc0_10 Qc1_10 Qc2_10 Qc3_10 Qc4_10 Qc5_10 Qc6_10 Qc7_10
  refine (box_any { b with next := b.next + 1, mod := b.mod + 1, mails := [] } _ _ _ _ _ _ _ _ _ _).mono ?_
  rintro e w11 ⟨rfl, hb⟩
  replace P := hide ((uh P).ups hb); replace R := hide ((uh R).ups hb); replace Q := hide ((uh Q).ups hb); replace OA := hide ((uh OA).up hb); have sz13 := hide (hb.size); replace BB := hide (below_y (uh BB) hb); clear hb
  obtain ⟨w12, hN⟩ : ∃ X, X = w11.alloc (.cells ([.string b.name, .int .i64 b.valid, .int .i64 (b.next + 1), .int .i64 (b.mod + 1), .slice (some ⟨g9, 0, none⟩) (b.mails.length + 1) cap9, .slice a2 b.tombs.length c2, .int .i64 b.hor] : List Value).toArray 50) := ⟨_, rfl⟩
  have Nx : HasObj w12 w11.heap.size 50 [.string b.name, .int .i64 b.valid, .int .i64 (b.next + 1), .int .i64 (b.mod + 1), .slice (some ⟨g9, 0, none⟩) (b.mails.length + 1) cap9, .slice a2 b.tombs.length c2, .int .i64 b.hor] := by rw [hN]; exact HasObj.new _ _ _
  have hbn : Below w11.heap.size w11 w12 := by rw [hN]; exact (Below.refl _ _).alloc (Nat.le_refl _) _
  have nePN : w.heap.size ≠ w11.heap.size := Nat.ne_of_lt (uh P).lt
  have neRN : w1.heap.size ≠ w11.heap.size := Nat.ne_of_lt (uh R).lt
  have neQN : w4.heap.size ≠ w11.heap.size := Nat.ne_of_lt (uh Q).lt
  have loN : w.heap.size ≤ w11.heap.size := (uh BB).size
  have EN := hN.symm; clear hN; replace P := hide ((uh P).ups hbn); replace R := hide ((uh R).ups hbn); replace Q := hide ((uh Q).ups hbn); replace OA := hide ((uh OA).up hbn); have sz14 := hide (hbn.size); replace BB := hide (below_y (uh BB) hbn); clear hbn; have N := hide Nx; clear Nx; have Nc0_11 := (uh N).cell 0 rfl; have Nc1_11 := (uh N).cell 1 rfl; have Nc2_11 := (uh N).cell 2 rfl; have Nc3_11 := (uh N).cell 3 rfl; have Nc4_11 := (uh N).cell 4 rfl; have Nc5_11 := (uh N).cell 5 rfl; have Nc6_11 := (uh N).cell 6 rfl; go_wp2_with fail; clear Nc0_11 Nc1_11 Nc2_11 Nc3_11 Nc4_11 Nc5_11 Nc6_11 EN
  refine (impl_BoxOk_any (added b flags text) _ _ w.heap.size _ (uh FA) (uh OA)).mono ?_
  rintro e w13 ⟨rfl, hb⟩
  replace P := hide ((uh P).ups hb); replace R := hide ((uh R).ups hb); replace Q := hide ((uh Q).ups hb); replace N := hide ((uh N).ups hb); replace OA := hide ((uh OA).up hb); have sz15 := hide (hb.size); replace BB := hide (below_y (uh BB) hb); clear hb
  cases hq2 : boxOk (added b flags text) with
  | false =>
   have Pc0_12 := (uh P).cell 0 rfl; have Pc1_12 := (uh P).cell 1 rfl; have Pc2_12 := (uh P).cell 2 rfl; have Pc3_12 := (uh P).cell 3 rfl; have Pc4_12 := (uh P).cell 4 rfl; have Pc5_12 := (uh P).cell 5 rfl; have Pc6_12 := (uh P).cell 6 rfl; go_wp2_with fail; clear Pc0_12 Pc1_12 Pc2_12 Pc3_12 Pc4_12 Pc5_12 Pc6_12
   refine (copiedBox_any b _ _ B _ (uh HF) ((uh HO).up (uh BB))).mono ?_
   rintro e w14 ⟨vm, vt, rfl, ob, hb⟩
   obtain ⟨am7, cm7, rfl⟩ := g_shape ob.1
   obtain ⟨at7, ct7, rfl⟩ := g_shape ob.2
   replace P := hide ((uh P).ups hb); replace R := hide ((uh R).ups hb); replace Q := hide ((uh Q).ups hb); replace N := hide ((uh N).ups hb); have sz16 := hide (hb.size); replace BB := hide (below_y (uh BB) hb); clear hb; have OM7 := hide ob.1; have OT7 := hide ob.2; clear ob; have V := hide (uh V2 hq2); have Rf0 := (uh R).frozen 0; have Rf1 := (uh R).frozen 1; have Rf2 := (uh R).frozen 2; have Rf3 := (uh R).frozen 3; have Rf4 := (uh R).frozen 4; have Rf5 := (uh R).frozen 5; have Rf6 := (uh R).frozen 6; have Re0 := (uh R).cell 0 rfl; have Re1 := (uh R).cell 1 rfl; have Re2 := (uh R).cell 2 rfl; have Re3 := (uh R).cell 3 rfl; have Re4 := (uh R).cell 4 rfl; have Re5 := (uh R).cell 5 rfl; have Re6 := (uh R).cell 6 rfl; have F := hide (fill7 (uh R) (.string b.name) (.int .i64 b.valid) (.int .i64 b.next) (.int .i64 b.mod) (.slice am7 b.mails.length cm7) (.slice at7 b.tombs.length ct7) (.int .i64 b.hor))
   obtain ⟨U, hU⟩ : ∃ U, U = (((((((w14.setCell ⟨w1.heap.size, 0, none⟩ (.string b.name)).setCell ⟨w1.heap.size, 1, none⟩ (.int .i64 b.valid)).setCell ⟨w1.heap.size, 2, none⟩ (.int .i64 b.next)).setCell ⟨w1.heap.size, 3, none⟩ (.int .i64 b.mod)).setCell ⟨w1.heap.size, 4, none⟩ (.slice am7 b.mails.length cm7)).setCell ⟨w1.heap.size, 5, none⟩ (.slice at7 b.tombs.length ct7)).setCell ⟨w1.heap.size, 6, none⟩ (.int .i64 b.hor)) := ⟨_, rfl⟩
   have F9 := uh F
   rw [← hU] at F9
   have EU := hU.symm; clear F hU; have v0 := F9.obj.cell 0 rfl; have v1 := F9.obj.cell 1 rfl; have v2 := F9.obj.cell 2 rfl; have v3 := F9.obj.cell 3 rfl; have v4 := F9.obj.cell 4 rfl; have v5 := F9.obj.cell 5 rfl; have v6 := F9.obj.cell 6 rfl; have F := hide F9; clear F9
   go_wp2_with (refine bodyPost_ret (by simp [results, Tryz.results18, go_sem, v0, v1, v2, v3, v4, v5, v6]; try rfl) rfl ?_)
   clear EU; have F := uh F
   refine ⟨_, _, by rw [uh V], ?_, F.below loR (uh BB)⟩
   rw [uh V]
   exact ⟨g_based (F.row (by decide) (uh OM7)) (by have sz1_ := uh sz1; have sz2_ := uh sz2; have sz3_ := uh sz3; have sz4_ := uh sz4; have sz5_ := uh sz5; have sz6_ := uh sz6; have sz7_ := uh sz7; have sz8_ := uh sz8; have sz9_ := uh sz9; have sz10_ := uh sz10; have sz11_ := uh sz11; have sz12_ := uh sz12; have sz13_ := uh sz13; have sz14_ := uh sz14; have sz15_ := uh sz15; have sz16_ := uh sz16; omega), g_based (F.row (by decide) (uh OT7)) (by have sz1_ := uh sz1; have sz2_ := uh sz2; have sz3_ := uh sz3; have sz4_ := uh sz4; have sz5_ := uh sz5; have sz6_ := uh sz6; have sz7_ := uh sz7; have sz8_ := uh sz8; have sz9_ := uh sz9; have sz10_ := uh sz10; have sz11_ := uh sz11; have sz12_ := uh sz12; have sz13_ := uh sz13; have sz14_ := uh sz14; have sz15_ := uh sz15; have sz16_ := uh sz16; omega)⟩
  | true =>
   have V := hide (uh V3 (uh HQ1) hq2); clear hq2; have Nc0_12 := (uh N).cell 0 rfl; have Nc1_12 := (uh N).cell 1 rfl; have Nc2_12 := (uh N).cell 2 rfl; have Nc3_12 := (uh N).cell 3 rfl; have Nc4_12 := (uh N).cell 4 rfl; have Nc5_12 := (uh N).cell 5 rfl; have Nc6_12 := (uh N).cell 6 rfl; have Pc0_13 := (uh P).cell 0 rfl; have Pc1_13 := (uh P).cell 1 rfl; have Pc2_13 := (uh P).cell 2 rfl; have Pc3_13 := (uh P).cell 3 rfl; have Pc4_13 := (uh P).cell 4 rfl; have Pc5_13 := (uh P).cell 5 rfl; have Pc6_13 := (uh P).cell 6 rfl; have Rf0 := (uh R).frozen 0; have Rf1 := (uh R).frozen 1; have Rf2 := (uh R).frozen 2; have Rf3 := (uh R).frozen 3; have Rf4 := (uh R).frozen 4; have Rf5 := (uh R).frozen 5; have Rf6 := (uh R).frozen 6; have Re0 := (uh R).cell 0 rfl; have Re1 := (uh R).cell 1 rfl; have Re2 := (uh R).cell 2 rfl; have Re3 := (uh R).cell 3 rfl; have Re4 := (uh R).cell 4 rfl; have Re5 := (uh R).cell 5 rfl; have Re6 := (uh R).cell 6 rfl
   have F := hide (fill7 (uh R) (.string b.name) (.int .i64 b.valid) (.int .i64 (b.next + 1)) (.int .i64 (b.mod + 1)) (.slice (some ⟨g9, 0, none⟩) (b.mails.length + 1) cap9) (.slice a2 b.tombs.length c2) (.int .i64 b.hor))
   go_wp2
   go_region
   go_wp2
   obtain ⟨U, hU⟩ : ∃ U, U = (((((((w13.setCell ⟨w1.heap.size, 0, none⟩ (.string b.name)).setCell ⟨w1.heap.size, 1, none⟩ (.int .i64 b.valid)).setCell ⟨w1.heap.size, 2, none⟩ (.int .i64 (b.next + 1))).setCell ⟨w1.heap.size, 3, none⟩ (.int .i64 (b.mod + 1))).setCell ⟨w1.heap.size, 4, none⟩ (.slice (some ⟨g9, 0, none⟩) (b.mails.length + 1) cap9)).setCell ⟨w1.heap.size, 5, none⟩ (.slice a2 b.tombs.length c2)).setCell ⟨w1.heap.size, 6, none⟩ (.int .i64 b.hor)) := ⟨_, rfl⟩
   have F := uh F
   rw [← hU] at F ⊢
   have FO : HasObj U.drew (w1.heap.size) 50 [.string b.name, .int .i64 b.valid, .int .i64 (b.next + 1), .int .i64 (b.mod + 1), .slice (some ⟨g9, 0, none⟩) (b.mails.length + 1) cap9, .slice a2 b.tombs.length c2, .int .i64 b.hor] := F.obj
   have v0 := FO.cell 0 rfl; have v1 := FO.cell 1 rfl; have v2 := FO.cell 2 rfl; have v3 := FO.cell 3 rfl; have v4 := FO.cell 4 rfl; have v5 := FO.cell 5 rfl; have v6 := FO.cell 6 rfl
   refine bodyPost_ret (by simp [results, Tryz.results18, go_sem, v0, v1, v2, v3, v4, v5, v6]; try rfl) rfl ?_
   refine ⟨.slice (some ⟨g9, 0, none⟩) (b.mails.length + 1) cap9, .slice a2 b.tombs.length c2, by rw [uh V]; rfl, ?_, (F.below loR (uh BB)).drew⟩
   rw [uh V]
   exact (show OwnBx w.heap.size U _ _ (added b flags text) from ⟨F.row (by decide) (uh OA).1, F.row (by decide) (uh OA).2⟩)
end Go.Proofs.YtlngjflhbkannaaGreat
