/- The walk of FnExactMakeBox. Made by gen_storelaws.py. -/
import Derived.Test.YtanapiaobpoebaaTv
import Derived.Test.YtanapiaobpoebaaStoreLaws1
import Derived.Test.YtanapiaobpoebaaStorePlain2
namespace Go.Proofs.Ytanapiaobpoebaa
open Go.RowKit
open Plain
set_option linter.unusedVariables false
set_option linter.unusedSimpArgs false

set_option maxHeartbeats 16000000 in
set_option maxRecDepth 100000 in
theorem FnExactMakeBox_walk (s : Sx) (a0 : Option Addr) (c0 : Nat) (name : ByteArray) (w : World) (h : ArgSt w.heap.size w a0 s)
  (AL : SmallBs 1048576 s.boxes → SmallA (makeV s name).1.boxes)
  (CI : ∀ (v : Value) (B : Nat) (W : World), SmallBs 1048576 s.boxes → name.size ≤ 1048576 → ReadSt B W v s.boxes → Below w.heap.size w W → Calls Try.prog 7 #[.agg #[v, .int .i64 s.valid], .string name] W fun e w' => ∃ v', e = .returned (.tuple #[.agg #[v', .int .i64 (makeV s name).1.valid], .int .i64 (makeV s name).2]) ∧ OwnSt W.heap.size w' v' (makeV s name).1.boxes ∧ Below W.heap.size W w')
  (SI : ∀ (v : Value) (B : Nat) (W : World), SmallBs 1048576 s.boxes → name.size ≤ 1048576 → ReadSt B W v s.boxes → Calls Try.prog 5 #[.agg #[v, .int .i64 s.valid], .string name] W fun e w' => ∃ v', e = .returned (.tuple #[.agg #[v', .int .i64 (makeV s name).1.valid], .int .i64 (makeV s name).2]) ∧ ReadSt W.heap.size w' v' (makeV s name).1.boxes ∧ Below W.heap.size W w') :
  Calls Try.prog 3 #[.agg #[.slice a0 s.boxes.length c0, .int .i64 s.valid], .string name] w fun e w' => e = .returned (.bool true) ∧ Below w.heap.size w w' := by
 have HA := hide h; have CH := hide CI; have SH := hide SI; clear h CI SI; have BB := hide (Below.refl w.heap.size w)
 obtain ⟨w1, hA⟩ : ∃ X, X = w.alloc (.cells ([.slice a0 s.boxes.length c0, .int .i64 s.valid] : List Value).toArray 24) := ⟨_, rfl⟩
 have Ax : HasObj w1 w.heap.size 24 [.slice a0 s.boxes.length c0, .int .i64 s.valid] := by rw [hA]; exact HasObj.new _ _ _
 have hbn : Below w.heap.size w w1 := by rw [hA]; exact (Below.refl _ _).alloc (Nat.le_refl _) _
 have loA : w.heap.size ≤ w.heap.size := (uh BB).size
 have EA := hA.symm; clear hA; have sz1 := hide (hbn.size); replace BB := hide (below_y (uh BB) hbn); clear hbn; have A := hide Ax; clear Ax
 by_cases hzname : name.size ≤ 1048576
 rotate_left
 ·have dname : decide ((1048576 : Int) < (name.size : Int)) = true := by rw [decide_eq_true_eq]; omega
  go_enter Try.func3, Try.ntmps3
  go_wp2
  go_ret
  exact ⟨rfl, uh BB⟩
 have dname : decide ((1048576 : Int) < (name.size : Int)) = false := by rw [decide_eq_false_iff_not]; omega
 have SZ := hide (fun W (hb : Below w.heap.size w W) => szStore_sum s a0 c0 1048576 W (Nat.le_refl _) ((uh HA).up hb))
 have Ac0_1 := (uh A).cell 0 rfl; have Ac1_1 := (uh A).cell 1 rfl
 go_enter Try.func3, Try.ntmps3
 go_wp2_with fail; clear Ac0_1 Ac1_1 EA
 refine (uh SZ _ (uh BB)).mono ?_
 rintro e w2 ⟨⟨q, rfl, hq⟩, hb⟩
 replace A := hide ((uh A).ups hb); have sz2 := hide (hb.size); replace BB := hide (below_y (uh BB) hb); clear hb; clear SZ
 rcases hq with rfl | ⟨q, rfl, hq, hsm⟩
 ·go_wp2
  go_ret
  exact ⟨rfl, uh BB⟩
 have iq : ¬ (q : Int) < 0 := by omega
 have SM := hide hsm; clear hsm
 have TS := hide (fun W (hb : Below w.heap.size w W) => toStore_any s a0 c0 W (uh SM) ((uh HA).up hb))
 have CJ := hide (fun (v : Value) (B : Nat) (W : World) (h : ReadSt B W v s.boxes) hb => uh CH v B W (uh SM) hzname h hb)
 have SJ := hide (fun (v : Value) (B : Nat) (W : World) (h : ReadSt B W v s.boxes) => uh SH v B W (uh SM) hzname h)
 have SA := hide (AL (uh SM)); clear CH SH AL
 generalize makeV s name = an at *
 obtain ⟨z, code⟩ := an
 simp only at CJ SJ SA
 have Ac0_2 := (uh A).cell 0 rfl; have Ac1_2 := (uh A).cell 1 rfl; go_wp2_with fail; clear Ac0_2 Ac1_2
 refine (uh TS _ (uh BB)).mono ?_
 rintro e w3 ⟨vP, LP, hLP, rfl, oP, hapP, hb⟩
 obtain ⟨aP, cP, rfl⟩ := g_shape oP.row
 have NP := hide (OwnBs.base oP); have OP_ := hide oP; have HLP := hide hLP; clear oP hLP; have APP := hide hapP; clear hapP; replace A := hide ((uh A).ups hb); have sz3 := hide (hb.size); replace BB := hide (below_y (uh BB) hb); clear hb; have OP := OP_; clear OP_; go_wp2_with fail
 refine (uh SJ _ _ _ ⟨LP, uh HLP, uh OP⟩).mono ?_
 rintro e w4 ⟨vW, rfl, ⟨LW, hLW, oW⟩, hb⟩
 obtain ⟨aW, cW, rfl⟩ := g_shape oW.row
 have NW := hide (OwnBs.base oW); have OW_ := hide oW; have HLW := hide hLW; clear oW hLW; replace A := hide ((uh A).ups hb); replace OP := hide ((uh OP).up hb); have sz4 := hide (hb.size); replace BB := hide (below_y (uh BB) hb); clear hb; have OW := OW_; clear OW_; clear OP
 obtain ⟨w5, hW⟩ : ∃ X, X = w4.alloc (.cells ([.slice aW LW.length cW, .int .i64 z.valid] : List Value).toArray 28) := ⟨_, rfl⟩
 have Wx : HasObj w5 w4.heap.size 28 [.slice aW LW.length cW, .int .i64 z.valid] := by rw [hW]; exact HasObj.new _ _ _
 have hbn : Below w4.heap.size w4 w5 := by rw [hW]; exact (Below.refl _ _).alloc (Nat.le_refl _) _
 have neAW : w.heap.size ≠ w4.heap.size := Nat.ne_of_lt (uh A).lt
 have loW : w.heap.size ≤ w4.heap.size := (uh BB).size
 have EW := hW.symm; clear hW; replace A := hide ((uh A).ups hbn); replace OW := hide ((uh OW).up hbn); have sz5 := hide (hbn.size); replace BB := hide (below_y (uh BB) hbn); clear hbn; have W := hide Wx; clear Wx; have Ac0_3 := (uh A).cell 0 rfl; have Ac1_3 := (uh A).cell 1 rfl; go_wp2_with fail; clear Ac0_3 Ac1_3 EW
 refine (uh TS _ (uh BB)).mono ?_
 rintro e w6 ⟨vX, LX, hLX, rfl, oX, hapX, hb⟩
 obtain ⟨aX, cX, rfl⟩ := g_shape oX.row
 have NX := hide (OwnBs.base oX); have OX_ := hide oX; have HLX := hide hLX; clear oX hLX; have APX := hide hapX; clear hapX; replace A := hide ((uh A).ups hb); replace W := hide ((uh W).ups hb); replace OW := hide ((uh OW).up hb); have sz6 := hide (hb.size); replace BB := hide (below_y (uh BB) hb); clear hb; have OX := OX_; clear OX_
 obtain ⟨w7, hX⟩ : ∃ X, X = w6.alloc (.cells ([.slice aX LX.length cX, .int .i64 s.valid] : List Value).toArray 28) := ⟨_, rfl⟩
 have Xx : HasObj w7 w6.heap.size 28 [.slice aX LX.length cX, .int .i64 s.valid] := by rw [hX]; exact HasObj.new _ _ _
 have hbn : Below w6.heap.size w6 w7 := by rw [hX]; exact (Below.refl _ _).alloc (Nat.le_refl _) _
 have neAX : w.heap.size ≠ w6.heap.size := Nat.ne_of_lt (uh A).lt
 have neWX : w4.heap.size ≠ w6.heap.size := Nat.ne_of_lt (uh W).lt
 have loX : w.heap.size ≤ w6.heap.size := (uh BB).size
 have EX := hX.symm; clear hX; replace A := hide ((uh A).ups hbn); replace W := hide ((uh W).ups hbn); replace OW := hide ((uh OW).up hbn); replace OX := hide ((uh OX).up hbn); have sz7 := hide (hbn.size); replace BB := hide (below_y (uh BB) hbn); clear hbn; have X := hide Xx; clear Xx; have Xc0_4 := (uh X).cell 0 rfl; have Xc1_4 := (uh X).cell 1 rfl; go_wp2_with fail; clear Xc0_4 Xc1_4 EX
 refine (uh CJ _ _ _ ⟨LX, uh HLX, uh OX⟩ (uh BB)).mono ?_
 rintro e w8 ⟨vG, rfl, ⟨LG, hLG, oG, hapG⟩, hb⟩
 obtain ⟨aG, cG, rfl⟩ := g_shape oG.row
 have NG := hide (OwnBs.base oG); have OG_ := hide oG; have HLG := hide hLG; clear oG hLG; have APG := hide hapG; clear hapG; replace A := hide ((uh A).ups hb); replace W := hide ((uh W).ups hb); replace X := hide ((uh X).ups hb); replace OW := hide ((uh OW).up hb); replace OX := hide ((uh OX).up hb); have sz8 := hide (hb.size); replace BB := hide (below_y (uh BB) hb); clear hb; have OG := OG_; clear OG_
 obtain ⟨w9, hG⟩ : ∃ X, X = w8.alloc (.cells ([.slice aG LG.length cG, .int .i64 z.valid] : List Value).toArray 28) := ⟨_, rfl⟩
 have Gx : HasObj w9 w8.heap.size 28 [.slice aG LG.length cG, .int .i64 z.valid] := by rw [hG]; exact HasObj.new _ _ _
 have hbn : Below w8.heap.size w8 w9 := by rw [hG]; exact (Below.refl _ _).alloc (Nat.le_refl _) _
 have neAG : w.heap.size ≠ w8.heap.size := Nat.ne_of_lt (uh A).lt
 have neWG : w4.heap.size ≠ w8.heap.size := Nat.ne_of_lt (uh W).lt
 have neXG : w6.heap.size ≠ w8.heap.size := Nat.ne_of_lt (uh X).lt
 have loG : w.heap.size ≤ w8.heap.size := (uh BB).size
 have EG := hG.symm; clear hG; replace A := hide ((uh A).ups hbn); replace W := hide ((uh W).ups hbn); replace X := hide ((uh X).ups hbn); replace OW := hide ((uh OW).up hbn); replace OX := hide ((uh OX).up hbn); replace OG := hide ((uh OG).up hbn); have sz9 := hide (hbn.size); replace BB := hide (below_y (uh BB) hbn); clear hbn; have G := hide Gx; clear Gx; have Gc0_5 := (uh G).cell 0 rfl; have Gc1_5 := (uh G).cell 1 rfl; have Wc0_6 := (uh W).cell 0 rfl; have Wc1_6 := (uh W).cell 1 rfl; go_wp2_with fail; clear Gc0_5 Gc1_5 Wc0_6 Wc1_6 EG
 refine (eqStore_same z LG LW _ _ _ _ _ ((uh SA)).len ((uh SA)).each (uh HLG) (uh HLW) (uh OG) (uh OW)).mono ?_
 rintro e w10 ⟨rfl, hb⟩
 replace A := hide ((uh A).ups hb); replace W := hide ((uh W).ups hb); replace X := hide ((uh X).ups hb); replace G := hide ((uh G).ups hb); replace OW := hide ((uh OW).up hb); replace OX := hide ((uh OX).up hb); replace OG := hide ((uh OG).up hb); have sz10 := hide (hb.size); replace BB := hide (below_y (uh BB) hb); clear hb; have Xc0_7 := (uh X).cell 0 rfl; have Xc1_7 := (uh X).cell 1 rfl; have Ac0_8 := (uh A).cell 0 rfl; have Ac1_8 := (uh A).cell 1 rfl
 go_wp2
 clear Xc0_7 Xc1_7 Ac0_8 Ac1_8
 refine wp_region_held_drew (S := fun w' => w'.cell? ⟨w6.heap.size, 0, none⟩ = some (.slice aX LX.length cX) ∧ w'.cell? ⟨w6.heap.size, 1, none⟩ = some (.int .i64 s.valid) ∧ w'.cell? ⟨w.heap.size, 0, none⟩ = some (.slice a0 s.boxes.length c0) ∧ w'.cell? ⟨w.heap.size, 1, none⟩ = some (.int .i64 s.valid)) (by kernel_rfl) (⟨(uh X).cell 0 rfl, (uh X).cell 1 rfl, (uh A).cell 0 rfl, (uh A).cell 1 rfl⟩) (fun hHeld => ?_)
 replace A := hide ((uh A).drew); replace W := hide ((uh W).drew); replace X := hide ((uh X).drew); replace G := hide ((uh G).drew); replace OW := hide ((uh OW).drew); replace OX := hide ((uh OX).drew); replace OG := hide ((uh OG).drew); replace BB := hide ((uh BB).drew)
 have sz11 : Hid (w10.heap.size ≤ w10.drew.heap.size) := Nat.le_refl _
 refine tv 0 48 ?_; refine tv 1 49 ?_
 refine wpAnyH_ready (rs := [2]) (by kernel_rfl) (by simp) ?_
 refine AllReadyH.cons rfl (fun K hK => ?_) AllReadyH.nil
 go_simp
 refine (uh TS _ (uh BB)).mono ?_
 rintro e w11 ⟨vC, LC, hLC, rfl, oC, hapC, hb⟩
 obtain ⟨aC, cC, rfl⟩ := g_shape oC.row
 have NC := hide (OwnBs.base oC); have OC_ := hide oC; have HLC := hide hLC; clear oC hLC; have APC := hide hapC; clear hapC; replace A := hide ((uh A).ups hb); replace W := hide ((uh W).ups hb); replace X := hide ((uh X).ups hb); replace G := hide ((uh G).ups hb); replace OW := hide ((uh OW).up hb); replace OX := hide ((uh OX).up hb); replace OG := hide ((uh OG).up hb); have sz12 := hide (hb.size); replace BB := hide (below_y (uh BB) hb); clear hb; have OC := OC_; clear OC_; go_wp2_with fail
 refine hK.out _ _ (⟨(uh X).cell 0 rfl, (uh X).cell 1 rfl, (uh A).cell 0 rfl, (uh A).cell 1 rfl⟩) (fun hHeld2 => ?_)
 clear hK K hHeld; have hHeld := hHeld2; clear hHeld2
 try simp only [Act.put, p1, p2, p3]
 refine wpAnyH_ready (rs := [3]) (by kernel_rfl) (by simp) ?_
 refine AllReadyH.cons rfl (fun K hK => ?_) AllReadyH.nil
 go_simp
 refine (eqStore_same s LX LC _ _ _ _ _ (uh SM).a.len (uh SM).a.each (uh HLX) (uh HLC) (uh OX) (uh OC)).mono ?_
 rintro e w12 ⟨rfl, hb⟩
 replace A := hide ((uh A).ups hb); replace W := hide ((uh W).ups hb); replace X := hide ((uh X).ups hb); replace G := hide ((uh G).ups hb); replace OW := hide ((uh OW).up hb); replace OX := hide ((uh OX).up hb); replace OG := hide ((uh OG).up hb); replace OC := hide ((uh OC).up hb); have sz13 := hide (hb.size); replace BB := hide (below_y (uh BB) hb); clear hb; go_wp2_with fail
 refine hK.out _ _ (⟨(uh X).cell 0 rfl, (uh X).cell 1 rfl, (uh A).cell 0 rfl, (uh A).cell 1 rfl⟩) (fun hHeld2 => ?_)
 clear hK K hHeld; have hHeld := hHeld2; clear hHeld2
 try simp only [Act.put, p1, p2, p3]
 refine tv 4 52 ?_
 refine wpAnyH_done (by kernel_rfl) ?_ _
 clear OC; clear HLC APC NC
 have M9 := hide (fun (W : World) h => markStore_any LX (.slice aX LX.length cX)  s.valid w5.heap.size 1 W (((uh SM).a).sumL (uh HLX)) (((uh SM).a).on (uh HLX)) (by decide) (by decide) (uh APX) h)
 obtain ⟨KX, hKX⟩ : ∃ K, K = 1 + sumB LX := ⟨_, rfl⟩
 rw [← hKX] at M9
 have jKX : ¬ (KX : Int) < 0 := by omega
 have bKX : KX ≤ 1 + 20971520 := by have q1 := sumB_le LX; have q2 := ((uh SM).a).sumL (uh HLX); omega
 have HKX := hide hKX; clear hKX; have Xc0_9 := (uh X).cell 0 rfl; have Xc1_9 := (uh X).cell 1 rfl; go_wp2_with fail; clear Xc0_9 Xc1_9
 refine (uh M9 _ (uh OX)).mono ?_
 rintro e w13 ⟨rfl, om, hg⟩
 have A_ := hide (hg.obj (uh A) (fun hh => by rcases hh with hh | ⟨z, hz, hh | hh⟩; exact (uh A).not_row (by decide) (uh OX).row hh; exact (uh A).not_row (by decide) ((uh OX).each z hz).1 hh; exact (uh A).not_row (by decide) ((uh OX).each z hz).2 hh))
 have W_ := hide (hg.obj (uh W) (fun hh => by rcases hh with hh | ⟨z, hz, hh | hh⟩; exact (uh W).not_row (by decide) (uh OX).row hh; exact (uh W).not_row (by decide) ((uh OX).each z hz).1 hh; exact (uh W).not_row (by decide) ((uh OX).each z hz).2 hh))
 have X_ := hide (hg.obj (uh X) (fun hh => by rcases hh with hh | ⟨z, hz, hh | hh⟩; exact (uh X).not_row (by decide) (uh OX).row hh; exact (uh X).not_row (by decide) ((uh OX).each z hz).1 hh; exact (uh X).not_row (by decide) ((uh OX).each z hz).2 hh))
 have G_ := hide (hg.obj (uh G) (fun hh => by rcases hh with hh | ⟨z, hz, hh | hh⟩; exact (uh G).not_row (by decide) (uh OX).row hh; exact (uh G).not_row (by decide) ((uh OX).each z hz).1 hh; exact (uh G).not_row (by decide) ((uh OX).each z hz).2 hh))
 have OW_ := hide ((uh OW).butB hg (fun g hg1 hg2 => by have q1 := uh NW g hg1; have q2 := uh NX g hg2; have sz1_ := uh sz1; have sz2_ := uh sz2; have sz3_ := uh sz3; have sz4_ := uh sz4; have sz5_ := uh sz5; have sz6_ := uh sz6; have sz7_ := uh sz7; have sz8_ := uh sz8; have sz9_ := uh sz9; have sz10_ := uh sz10; have sz11_ := uh sz11; have sz12_ := uh sz12; have sz13_ := uh sz13; omega))
 have OG_ := hide ((uh OG).butB hg (fun g hg1 hg2 => by have q1 := uh NG g hg1; have q2 := uh NX g hg2; have sz1_ := uh sz1; have sz2_ := uh sz2; have sz3_ := uh sz3; have sz4_ := uh sz4; have sz5_ := uh sz5; have sz6_ := uh sz6; have sz7_ := uh sz7; have sz8_ := uh sz8; have sz9_ := uh sz9; have sz10_ := uh sz10; have sz11_ := uh sz11; have sz12_ := uh sz12; have sz13_ := uh sz13; omega))
 have BB_ : Hid (Below w.heap.size w w13) := (uh BB).trans (hg.toBelow (uh BB).size (fun g hh => by have q2 := uh NX g hh; have sz1_ := uh sz1; have sz2_ := uh sz2; have sz3_ := uh sz3; have sz4_ := uh sz4; have sz5_ := uh sz5; have sz6_ := uh sz6; have sz7_ := uh sz7; have sz8_ := uh sz8; have sz9_ := uh sz9; have sz10_ := uh sz10; have sz11_ := uh sz11; have sz12_ := uh sz12; have sz13_ := uh sz13; omega))
 have sz14 := hide (hg.size); replace A := A_; clear A_; replace W := W_; clear W_; replace X := X_; clear X_; replace G := G_; clear G_; replace OW := OW_; clear OW_; replace OG := OG_; clear OG_; replace BB := BB_; clear BB_; clear OX M9; have OX := hide om; clear om hg; clear OX; clear X; have Gc0_10 := (uh G).cell 0 rfl; have Gc1_10 := (uh G).cell 1 rfl; have Wc0_11 := (uh W).cell 0 rfl; have Wc1_11 := (uh W).cell 1 rfl; go_wp2_with fail; clear Gc0_10 Gc1_10 Wc0_11 Wc1_11
 refine (eqStore_same z LG LW _ _ _ _ _ ((uh SA)).len ((uh SA)).each (uh HLG) (uh HLW) (uh OG) (uh OW)).mono ?_
 rintro e w14 ⟨rfl, hb⟩
 replace A := hide ((uh A).ups hb); replace W := hide ((uh W).ups hb); replace G := hide ((uh G).ups hb); replace OW := hide ((uh OW).up hb); replace OG := hide ((uh OG).up hb); have sz15 := hide (hb.size); replace BB := hide (below_y (uh BB) hb); clear hb
 have M9 := hide (fun (W : World) h => markStore_any LG (.slice aG LG.length cG)  z.valid w7.heap.size 1 W (((uh SA)).sumL (uh HLG)) (((uh SA)).on (uh HLG)) (by decide) (by decide) (uh APG) h)
 obtain ⟨KG, hKG⟩ : ∃ K, K = 1 + sumB LG := ⟨_, rfl⟩
 rw [← hKG] at M9
 have jKG : ¬ (KG : Int) < 0 := by omega
 have bKG : KG ≤ 1 + 20971520 := by have q1 := sumB_le LG; have q2 := ((uh SA)).sumL (uh HLG); omega
 have HKG := hide hKG; clear hKG; have Gc0_12 := (uh G).cell 0 rfl; have Gc1_12 := (uh G).cell 1 rfl; go_wp2_with fail; clear Gc0_12 Gc1_12
 refine (uh M9 _ (uh OG)).mono ?_
 rintro e w15 ⟨rfl, om, hg⟩
 have A_ := hide (hg.obj (uh A) (fun hh => by rcases hh with hh | ⟨z, hz, hh | hh⟩; exact (uh A).not_row (by decide) (uh OG).row hh; exact (uh A).not_row (by decide) ((uh OG).each z hz).1 hh; exact (uh A).not_row (by decide) ((uh OG).each z hz).2 hh))
 have W_ := hide (hg.obj (uh W) (fun hh => by rcases hh with hh | ⟨z, hz, hh | hh⟩; exact (uh W).not_row (by decide) (uh OG).row hh; exact (uh W).not_row (by decide) ((uh OG).each z hz).1 hh; exact (uh W).not_row (by decide) ((uh OG).each z hz).2 hh))
 have G_ := hide (hg.obj (uh G) (fun hh => by rcases hh with hh | ⟨z, hz, hh | hh⟩; exact (uh G).not_row (by decide) (uh OG).row hh; exact (uh G).not_row (by decide) ((uh OG).each z hz).1 hh; exact (uh G).not_row (by decide) ((uh OG).each z hz).2 hh))
 have OW_ := hide ((uh OW).butB hg (fun g hg1 hg2 => by have q1 := uh NW g hg1; have q2 := uh NG g hg2; have sz1_ := uh sz1; have sz2_ := uh sz2; have sz3_ := uh sz3; have sz4_ := uh sz4; have sz5_ := uh sz5; have sz6_ := uh sz6; have sz7_ := uh sz7; have sz8_ := uh sz8; have sz9_ := uh sz9; have sz10_ := uh sz10; have sz11_ := uh sz11; have sz12_ := uh sz12; have sz13_ := uh sz13; have sz14_ := uh sz14; have sz15_ := uh sz15; omega))
 have BB_ : Hid (Below w.heap.size w w15) := (uh BB).trans (hg.toBelow (uh BB).size (fun g hh => by have q2 := uh NG g hh; have sz1_ := uh sz1; have sz2_ := uh sz2; have sz3_ := uh sz3; have sz4_ := uh sz4; have sz5_ := uh sz5; have sz6_ := uh sz6; have sz7_ := uh sz7; have sz8_ := uh sz8; have sz9_ := uh sz9; have sz10_ := uh sz10; have sz11_ := uh sz11; have sz12_ := uh sz12; have sz13_ := uh sz13; have sz14_ := uh sz14; have sz15_ := uh sz15; omega))
 have sz16 := hide (hg.size); replace A := A_; clear A_; replace W := W_; clear W_; replace G := G_; clear G_; replace OW := OW_; clear OW_; replace BB := BB_; clear BB_; clear OG M9; have OG := hide om; clear om hg
 have M9 := hide (fun (W : World) h => heldStore_any LG (.slice aG LG.length cG)  z.valid w7.heap.size 1 W (((uh SA)).sumL (uh HLG)) (((uh SA)).on (uh HLG)) (by decide) (by decide) h)
 rw [← uh HKG] at M9
 have Gc0_13 := (uh G).cell 0 rfl; have Gc1_13 := (uh G).cell 1 rfl; go_wp2_with fail; clear Gc0_13 Gc1_13
 refine (uh M9 _ (uh OG)).mono ?_
 rintro e w16 ⟨rfl, hb⟩
 replace A := hide ((uh A).ups hb); replace W := hide ((uh W).ups hb); replace G := hide ((uh G).ups hb); replace OW := hide ((uh OW).up hb); replace OG := hide ((uh OG).up hb); have sz17 := hide (hb.size); replace BB := hide (below_y (uh BB) hb); clear hb; clear M9; have Ac0_14 := (uh A).cell 0 rfl; have Ac1_14 := (uh A).cell 1 rfl; go_wp2_with fail; clear Ac0_14 Ac1_14
 refine (uh TS _ (uh BB)).mono ?_
 rintro e w17 ⟨vQ, LQ, hLQ, rfl, oQ, hapQ, hb⟩
 obtain ⟨aQ, cQ, rfl⟩ := g_shape oQ.row
 have NQ := hide (OwnBs.base oQ); have OQ_ := hide oQ; have HLQ := hide hLQ; clear oQ hLQ; have APQ := hide hapQ; clear hapQ; replace A := hide ((uh A).ups hb); replace W := hide ((uh W).ups hb); replace G := hide ((uh G).ups hb); replace OW := hide ((uh OW).up hb); replace OG := hide ((uh OG).up hb); have sz18 := hide (hb.size); replace BB := hide (below_y (uh BB) hb); clear hb; have OQ := OQ_; clear OQ_; go_wp2_with fail
 refine (uh CJ _ _ _ ⟨LQ, uh HLQ, uh OQ⟩ (uh BB)).mono ?_
 rintro e w18 ⟨vH, rfl, ⟨LH, hLH, oH, hapH⟩, hb⟩
 obtain ⟨aH, cH, rfl⟩ := g_shape oH.row
 have NH := hide (OwnBs.base oH); have OH_ := hide oH; have HLH := hide hLH; clear oH hLH; have APH := hide hapH; clear hapH; replace A := hide ((uh A).ups hb); replace W := hide ((uh W).ups hb); replace G := hide ((uh G).ups hb); replace OW := hide ((uh OW).up hb); replace OG := hide ((uh OG).up hb); replace OQ := hide ((uh OQ).up hb); have sz19 := hide (hb.size); replace BB := hide (below_y (uh BB) hb); clear hb; have OH := OH_; clear OH_; clear OQ
 obtain ⟨w19, hH⟩ : ∃ X, X = w18.alloc (.cells ([.slice aH LH.length cH, .int .i64 z.valid] : List Value).toArray 28) := ⟨_, rfl⟩
 have Hx : HasObj w19 w18.heap.size 28 [.slice aH LH.length cH, .int .i64 z.valid] := by rw [hH]; exact HasObj.new _ _ _
 have hbn : Below w18.heap.size w18 w19 := by rw [hH]; exact (Below.refl _ _).alloc (Nat.le_refl _) _
 have neAH : w.heap.size ≠ w18.heap.size := Nat.ne_of_lt (uh A).lt
 have neWH : w4.heap.size ≠ w18.heap.size := Nat.ne_of_lt (uh W).lt
 have neGH : w8.heap.size ≠ w18.heap.size := Nat.ne_of_lt (uh G).lt
 have loH : w.heap.size ≤ w18.heap.size := (uh BB).size
 have EH := hH.symm; clear hH; replace A := hide ((uh A).ups hbn); replace W := hide ((uh W).ups hbn); replace G := hide ((uh G).ups hbn); replace OW := hide ((uh OW).up hbn); replace OG := hide ((uh OG).up hbn); replace OH := hide ((uh OH).up hbn); have sz20 := hide (hbn.size); replace BB := hide (below_y (uh BB) hbn); clear hbn; have H := hide Hx; clear Hx; have Hc0_15 := (uh H).cell 0 rfl; have Hc1_15 := (uh H).cell 1 rfl; have Wc0_16 := (uh W).cell 0 rfl; have Wc1_16 := (uh W).cell 1 rfl; go_wp2_with fail; clear Hc0_15 Hc1_15 Wc0_16 Wc1_16 EH
 refine (eqStore_same z LH LW _ _ _ _ _ ((uh SA)).len ((uh SA)).each (uh HLH) (uh HLW) (uh OH) (uh OW)).mono ?_
 rintro e w20 ⟨rfl, hb⟩
 replace A := hide ((uh A).ups hb); replace W := hide ((uh W).ups hb); replace G := hide ((uh G).ups hb); replace H := hide ((uh H).ups hb); replace OW := hide ((uh OW).up hb); replace OG := hide ((uh OG).up hb); replace OH := hide ((uh OH).up hb); have sz21 := hide (hb.size); replace BB := hide (below_y (uh BB) hb); clear hb
 have M9 := hide (fun (W : World) h => heldStore_any LG (.slice aG LG.length cG)  z.valid w7.heap.size 1 W (((uh SA)).sumL (uh HLG)) (((uh SA)).on (uh HLG)) (by decide) (by decide) h)
 rw [← uh HKG] at M9
 have Gc0_17 := (uh G).cell 0 rfl; have Gc1_17 := (uh G).cell 1 rfl; go_wp2_with fail; clear Gc0_17 Gc1_17
 refine (uh M9 _ (uh OG)).mono ?_
 rintro e w21 ⟨rfl, hb⟩
 replace A := hide ((uh A).ups hb); replace W := hide ((uh W).ups hb); replace G := hide ((uh G).ups hb); replace H := hide ((uh H).ups hb); replace OW := hide ((uh OW).up hb); replace OG := hide ((uh OG).up hb); replace OH := hide ((uh OH).up hb); have sz22 := hide (hb.size); replace BB := hide (below_y (uh BB) hb); clear hb; clear M9
 go_wp2
 go_ret
 exact ⟨rfl, uh BB⟩
end Go.Proofs.Ytanapiaobpoebaa
