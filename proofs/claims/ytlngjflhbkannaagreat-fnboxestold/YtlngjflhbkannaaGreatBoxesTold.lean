/- FnBoxesTold's walk. Made by gen_boxestold.py. -/
import Derived.Test.YtlngjflhbkannaaGreatTv
import Derived.Test.YtlngjflhbkannaaGreatDrawAny2
import Derived.Test.YtlngjflhbkannaaGreatSaA
import Derived.Test.YtlngjflhbkannaaGreatBoxI
import Derived.Test.YtlngjflhbkannaaGreatDeA
import Derived.Test.YtlngjflhbkannaaGreatExpungeI
import Derived.Test.YtlngjflhbkannaaGreatSetFlagsI
namespace Go.Proofs.YtlngjflhbkannaaGreat
open Go.RowKit
open Plain
set_option linter.unusedVariables false
set_option linter.unusedSimpArgs false

theorem sameBox_eq (b c : Bx) (e : b = c) (m1 t1 m2 t2 : Value) (B1 B2 : Nat) (w : World) (hl1 : c.mails.length ≤ 1048576) (hl2 : c.tombs.length ≤ 1048576) (h1 : OwnBx B1 w m1 t1 b) (h2 : OwnBx B2 w m2 t2 c) :
  Calls Tryz.prog 30 #[boxV b m1 t1, boxV c m2 t2] w fun e w' => e = .returned (.bool true) ∧ Below w.heap.size w w' := by
 subst e
 exact sameBox_same b m1 t1 m2 t2 B1 B2 w hl1 hl2 h1 h2
theorem sameSet_told (l : List Rg) (v1 v2 : Value) (B1 B2 : Nat) (w : World) (hs : l.length ≤ 1048576) (h1 : OwnR B1 w v1 l) (h2 : OwnR B2 w v2 l) :
  Calls Tryz.prog 31 #[v1, v2] w fun e w' => e = .returned (.bool true) ∧ Below w.heap.size w w' :=
 (sameSet_same l v1 v2 w hs h1.read h2.read).mono fun e w' ⟨h, q, hq⟩ => ⟨h, by rw [hq]; exact below_dM w q⟩
set_option maxHeartbeats 16000000 in
set_option maxRecDepth 100000 in
theorem FnBoxesTold_walk (len cap : Nat) (a : Option Addr) (w : World) (ha : Arg w.heap.size w a len) :
  Calls Tryz.prog 4 #[.slice a len cap] w fun e w' => e = .returned (.bool true) ∧ Below w.heap.size w w' := by
 have hl := ha.1
 have q0 := bigF_any len cap a w (by omega)
 rw [decide_eq_false (show ¬ (1048576 : Int) < (len : Int) by omega)] at q0
 have Q0 := hide q0
 have D1 := hide (fun W (hb : Below w.heap.size w W) => DrawAddMail_any w.heap.size len cap a W (ha.below hb) hb.size)
 have D2 := hide (fun W (hb : Below w.heap.size w W) => DrawExpunge_any w.heap.size len cap a W (ha.below hb) hb.size)
 have D3 := hide (fun W (hb : Below w.heap.size w W) => DrawSetFlags_any w.heap.size len cap a W (ha.below hb) hb.size)
 have D4 := hide (fun W (hb : Below w.heap.size w W) => DrawForgetTombs_any w.heap.size len cap a W (ha.below hb) hb.size)
 have D5 := hide (fun W (hb : Below w.heap.size w W) => DrawBoxNew_any w.heap.size len cap a W (ha.below hb) hb.size)
 clear q0 ha; have BB := hide (Below.refl w.heap.size w)
 go_enter Tryz.func4, Tryz.ntmps4
 go_wp2_with fail
 refine (uh Q0).mono ?_
 rintro e w0 ⟨rfl, hw⟩
 subst w0
 go_wp2_with fail
 refine (uh D1 _ (uh BB)).mono ?_
 rintro e w1 ⟨bB, mB, tB, zf, tx, rfl, anyB, oB, htx, hb⟩
 obtain ⟨amB, cmB, rfl⟩ := g_shape oB.1
 obtain ⟨atB, ctB, rfl⟩ := g_shape oB.2
 have FTB := hide anyB.fit
 have l1B : bB.mails.length ≤ 1048576 := Nat.le_trans anyB.mails (by decide)
 have l2B : bB.tombs.length ≤ 1048576 := Nat.le_trans anyB.tombs (by decide)
 have OB_ := hide oB; clear oB anyB
 have htx : tx.size ≤ 1048576 := by omega
 have sz1 := hide (hb.size); replace BB := hide (below_y (uh BB) hb); clear hb; have OB := OB_; clear OB_
 obtain ⟨w2, hB⟩ : ∃ X, X = w1.alloc (.cells ([.string bB.name, .int .i64 bB.valid, .int .i64 bB.next, .int .i64 bB.mod, .slice amB bB.mails.length cmB, .slice atB bB.tombs.length ctB, .int .i64 bB.hor] : List Value).toArray 50) := ⟨_, rfl⟩
 have Bx : HasObj w2 w1.heap.size 50 [.string bB.name, .int .i64 bB.valid, .int .i64 bB.next, .int .i64 bB.mod, .slice amB bB.mails.length cmB, .slice atB bB.tombs.length ctB, .int .i64 bB.hor] := by rw [hB]; exact HasObj.new _ _ _
 have hbn : Below w1.heap.size w1 w2 := by rw [hB]; exact (Below.refl _ _).alloc (Nat.le_refl _) _
 have loB : w.heap.size ≤ w1.heap.size := (uh BB).size
 have EB := hB.symm; clear hB; replace OB := hide ((uh OB).up hbn); have sz2 := hide (hbn.size); replace BB := hide (below_y (uh BB) hbn); clear hbn; have B := hide Bx; clear Bx; have AL := hide (addV_few bB zf tx l1B l2B); have AT := hide (addV_told bB zf tx)
 obtain ⟨av, uid, hAV⟩ : ∃ x y, addV bB zf tx = (x, y) := ⟨_, _, rfl⟩
 rw [hAV] at AL AT
 simp only at AL AT
 have AV := hide hAV; clear hAV; have Bc0_1 := (uh B).cell 0 rfl; have Bc1_1 := (uh B).cell 1 rfl; have Bc2_1 := (uh B).cell 2 rfl; have Bc3_1 := (uh B).cell 3 rfl; have Bc4_1 := (uh B).cell 4 rfl; have Bc5_1 := (uh B).cell 5 rfl; have Bc6_1 := (uh B).cell 6 rfl; go_wp2_with fail; clear Bc0_1 Bc1_1 Bc2_1 Bc3_1 Bc4_1 Bc5_1 Bc6_1 EB
 refine (impl_AddMail_any bB _ _ _ zf tx _ (uh FTB) l1B htx (uh OB)).mono ?_
 rintro e w3 ⟨mA, tA, rfl, oA, hb⟩
 rw [uh AV] at oA ⊢
 simp only at oA ⊢
 obtain ⟨amA, cmA, rfl⟩ := g_shape oA.1
 obtain ⟨atA, ctA, rfl⟩ := g_shape oA.2
 have OA_ := hide oA; clear oA; replace B := hide ((uh B).ups hb); replace OB := hide ((uh OB).up hb); have sz3 := hide (hb.size); replace BB := hide (below_y (uh BB) hb); clear hb; have OA := OA_; clear OA_
 obtain ⟨w4, hA⟩ : ∃ X, X = w3.alloc (.cells ([.string av.name, .int .i64 av.valid, .int .i64 av.next, .int .i64 av.mod, .slice amA av.mails.length cmA, .slice atA av.tombs.length ctA, .int .i64 av.hor] : List Value).toArray 50) := ⟨_, rfl⟩
 have Ax : HasObj w4 w3.heap.size 50 [.string av.name, .int .i64 av.valid, .int .i64 av.next, .int .i64 av.mod, .slice amA av.mails.length cmA, .slice atA av.tombs.length ctA, .int .i64 av.hor] := by rw [hA]; exact HasObj.new _ _ _
 have hbn : Below w3.heap.size w3 w4 := by rw [hA]; exact (Below.refl _ _).alloc (Nat.le_refl _) _
 have neBA : w1.heap.size ≠ w3.heap.size := Nat.ne_of_lt (uh B).lt
 have loA : w.heap.size ≤ w3.heap.size := (uh BB).size
 have EA := hA.symm; clear hA; replace B := hide ((uh B).ups hbn); replace OB := hide ((uh OB).up hbn); replace OA := hide ((uh OA).up hbn); have sz4 := hide (hbn.size); replace BB := hide (below_y (uh BB) hbn); clear hbn; have A := hide Ax; clear Ax; have Bc0_2 := (uh B).cell 0 rfl; have Bc1_2 := (uh B).cell 1 rfl; have Bc2_2 := (uh B).cell 2 rfl; have Bc3_2 := (uh B).cell 3 rfl; have Bc4_2 := (uh B).cell 4 rfl; have Bc5_2 := (uh B).cell 5 rfl; have Bc6_2 := (uh B).cell 6 rfl; go_wp2_with fail; clear Bc0_2 Bc1_2 Bc2_2 Bc3_2 Bc4_2 Bc5_2 Bc6_2 EA
 refine (spec_AddMail_any bB _ _ _ zf tx _ (uh FTB) l1B htx (uh OB)).mono ?_
 rintro e w5 ⟨mC, tC, rfl, oC, hb⟩
 rw [uh AV] at oC ⊢
 simp only at oC ⊢
 obtain ⟨amC, cmC, rfl⟩ := g_shape oC.1
 obtain ⟨atC, ctC, rfl⟩ := g_shape oC.2
 have OC_ := hide oC; clear oC; replace B := hide ((uh B).ups hb); replace A := hide ((uh A).ups hb); replace OB := hide ((uh OB).up hb); replace OA := hide ((uh OA).up hb); have sz5 := hide (hb.size); replace BB := hide (below_y (uh BB) hb); clear hb; have OC := OC_; clear OC_
 obtain ⟨w6, hC⟩ : ∃ X, X = w5.alloc (.cells ([.string av.name, .int .i64 av.valid, .int .i64 av.next, .int .i64 av.mod, .slice amC av.mails.length cmC, .slice atC av.tombs.length ctC, .int .i64 av.hor] : List Value).toArray 50) := ⟨_, rfl⟩
 have Cx : HasObj w6 w5.heap.size 50 [.string av.name, .int .i64 av.valid, .int .i64 av.next, .int .i64 av.mod, .slice amC av.mails.length cmC, .slice atC av.tombs.length ctC, .int .i64 av.hor] := by rw [hC]; exact HasObj.new _ _ _
 have hbn : Below w5.heap.size w5 w6 := by rw [hC]; exact (Below.refl _ _).alloc (Nat.le_refl _) _
 have neBC : w1.heap.size ≠ w5.heap.size := Nat.ne_of_lt (uh B).lt
 have neAC : w3.heap.size ≠ w5.heap.size := Nat.ne_of_lt (uh A).lt
 have loC : w.heap.size ≤ w5.heap.size := (uh BB).size
 have EC := hC.symm; clear hC; replace B := hide ((uh B).ups hbn); replace A := hide ((uh A).ups hbn); replace OB := hide ((uh OB).up hbn); replace OA := hide ((uh OA).up hbn); replace OC := hide ((uh OC).up hbn); have sz6 := hide (hbn.size); replace BB := hide (below_y (uh BB) hbn); clear hbn; have C := hide Cx; clear Cx; go_wp2_with fail; clear EC
 refine (uh D2 _ (uh BB)).mono ?_
 rintro e w7 ⟨bD, mD, tD, vS, sS, rfl, anyD, oD, oS, hlS, hb⟩
 obtain ⟨amD, cmD, rfl⟩ := g_shape oD.1
 obtain ⟨atD, ctD, rfl⟩ := g_shape oD.2
 have FTD := hide anyD.fit
 have l1D : bD.mails.length ≤ 1048576 := Nat.le_trans anyD.mails (by decide)
 have l2D : bD.tombs.length ≤ 1048576 := Nat.le_trans anyD.tombs (by decide)
 have OD_ := hide oD; clear oD anyD; have oSh := hide oS; clear oS; replace B := hide ((uh B).ups hb); replace A := hide ((uh A).ups hb); replace C := hide ((uh C).ups hb); replace OB := hide ((uh OB).up hb); replace OA := hide ((uh OA).up hb); replace OC := hide ((uh OC).up hb); have sz7 := hide (hb.size); replace BB := hide (below_y (uh BB) hb); clear hb; have RS := oSh; clear oSh; have OD := OD_; clear OD_
 obtain ⟨w8, hD⟩ : ∃ X, X = w7.alloc (.cells ([.string bD.name, .int .i64 bD.valid, .int .i64 bD.next, .int .i64 bD.mod, .slice amD bD.mails.length cmD, .slice atD bD.tombs.length ctD, .int .i64 bD.hor] : List Value).toArray 50) := ⟨_, rfl⟩
 have Dx : HasObj w8 w7.heap.size 50 [.string bD.name, .int .i64 bD.valid, .int .i64 bD.next, .int .i64 bD.mod, .slice amD bD.mails.length cmD, .slice atD bD.tombs.length ctD, .int .i64 bD.hor] := by rw [hD]; exact HasObj.new _ _ _
 have hbn : Below w7.heap.size w7 w8 := by rw [hD]; exact (Below.refl _ _).alloc (Nat.le_refl _) _
 have neBD : w1.heap.size ≠ w7.heap.size := Nat.ne_of_lt (uh B).lt
 have neAD : w3.heap.size ≠ w7.heap.size := Nat.ne_of_lt (uh A).lt
 have neCD : w5.heap.size ≠ w7.heap.size := Nat.ne_of_lt (uh C).lt
 have loD : w.heap.size ≤ w7.heap.size := (uh BB).size
 have ED := hD.symm; clear hD; replace B := hide ((uh B).ups hbn); replace A := hide ((uh A).ups hbn); replace C := hide ((uh C).ups hbn); replace OB := hide ((uh OB).up hbn); replace OA := hide ((uh OA).up hbn); replace OC := hide ((uh OC).up hbn); replace RS := hide ((uh RS).up hbn); replace OD := hide ((uh OD).up hbn); have sz8 := hide (hbn.size); replace BB := hide (below_y (uh BB) hbn); clear hbn; have D := hide Dx; clear Dx
 have hsS : sS.length ≤ 1048576 := by omega
 have EL := hide (expV_few bD sS l1D l2D)
 obtain ⟨ev, es, hEV⟩ : ∃ x y, expV bD sS = (x, y) := ⟨_, _, rfl⟩
 rw [hEV] at EL
 simp only at EL
 have EV := hide hEV; clear hEV; have Dc0_3 := (uh D).cell 0 rfl; have Dc1_3 := (uh D).cell 1 rfl; have Dc2_3 := (uh D).cell 2 rfl; have Dc3_3 := (uh D).cell 3 rfl; have Dc4_3 := (uh D).cell 4 rfl; have Dc5_3 := (uh D).cell 5 rfl; have Dc6_3 := (uh D).cell 6 rfl; go_wp2_with fail; clear Dc0_3 Dc1_3 Dc2_3 Dc3_3 Dc4_3 Dc5_3 Dc6_3 ED
 refine (impl_Expunge_any bD _ _ _ sS _ _ (uh FTD) hsS (OwnR.wide (uh RS)) (uh OD)).mono ?_
 rintro e w9 ⟨mE, tE, vG, rfl, oE, oG, hb⟩
 rw [uh EV] at oE oG ⊢
 simp only at oE oG ⊢
 obtain ⟨amE, cmE, rfl⟩ := g_shape oE.1
 obtain ⟨atE, ctE, rfl⟩ := g_shape oE.2
 have OE_ := hide oE; clear oE; have oGh := hide oG; clear oG; replace B := hide ((uh B).ups hb); replace A := hide ((uh A).ups hb); replace C := hide ((uh C).ups hb); replace D := hide ((uh D).ups hb); replace OB := hide ((uh OB).up hb); replace OA := hide ((uh OA).up hb); replace OC := hide ((uh OC).up hb); replace RS := hide ((uh RS).up hb); replace OD := hide ((uh OD).up hb); have sz9 := hide (hb.size); replace BB := hide (below_y (uh BB) hb); clear hb; have RG := oGh; clear oGh; have OE := OE_; clear OE_
 obtain ⟨w10, hE⟩ : ∃ X, X = w9.alloc (.cells ([.string ev.name, .int .i64 ev.valid, .int .i64 ev.next, .int .i64 ev.mod, .slice amE ev.mails.length cmE, .slice atE ev.tombs.length ctE, .int .i64 ev.hor] : List Value).toArray 50) := ⟨_, rfl⟩
 have Ex : HasObj w10 w9.heap.size 50 [.string ev.name, .int .i64 ev.valid, .int .i64 ev.next, .int .i64 ev.mod, .slice amE ev.mails.length cmE, .slice atE ev.tombs.length ctE, .int .i64 ev.hor] := by rw [hE]; exact HasObj.new _ _ _
 have hbn : Below w9.heap.size w9 w10 := by rw [hE]; exact (Below.refl _ _).alloc (Nat.le_refl _) _
 have neBE : w1.heap.size ≠ w9.heap.size := Nat.ne_of_lt (uh B).lt
 have neAE : w3.heap.size ≠ w9.heap.size := Nat.ne_of_lt (uh A).lt
 have neCE : w5.heap.size ≠ w9.heap.size := Nat.ne_of_lt (uh C).lt
 have neDE : w7.heap.size ≠ w9.heap.size := Nat.ne_of_lt (uh D).lt
 have loE : w.heap.size ≤ w9.heap.size := (uh BB).size
 have EE := hE.symm; clear hE; replace B := hide ((uh B).ups hbn); replace A := hide ((uh A).ups hbn); replace C := hide ((uh C).ups hbn); replace D := hide ((uh D).ups hbn); replace OB := hide ((uh OB).up hbn); replace OA := hide ((uh OA).up hbn); replace OC := hide ((uh OC).up hbn); replace RS := hide ((uh RS).up hbn); replace OD := hide ((uh OD).up hbn); replace RG := hide ((uh RG).up hbn); replace OE := hide ((uh OE).up hbn); have sz10 := hide (hbn.size); replace BB := hide (below_y (uh BB) hbn); clear hbn; have E := hide Ex; clear Ex; have Dc0_4 := (uh D).cell 0 rfl; have Dc1_4 := (uh D).cell 1 rfl; have Dc2_4 := (uh D).cell 2 rfl; have Dc3_4 := (uh D).cell 3 rfl; have Dc4_4 := (uh D).cell 4 rfl; have Dc5_4 := (uh D).cell 5 rfl; have Dc6_4 := (uh D).cell 6 rfl; go_wp2_with fail; clear Dc0_4 Dc1_4 Dc2_4 Dc3_4 Dc4_4 Dc5_4 Dc6_4 EE
 refine (spec_Expunge_any bD _ _ _ sS _ _ (uh FTD) hsS (OwnR.read (uh RS)) (uh OD)).mono ?_
 rintro e w11 ⟨mF, tF, vM, rfl, oF, oM, hb⟩
 rw [uh EV] at oF oM ⊢
 simp only at oF oM ⊢
 obtain ⟨amF, cmF, rfl⟩ := g_shape oF.1
 obtain ⟨atF, ctF, rfl⟩ := g_shape oF.2
 have OF_ := hide oF; clear oF; have oMh := hide oM; clear oM; replace B := hide ((uh B).ups hb); replace A := hide ((uh A).ups hb); replace C := hide ((uh C).ups hb); replace D := hide ((uh D).ups hb); replace E := hide ((uh E).ups hb); replace OB := hide ((uh OB).up hb); replace OA := hide ((uh OA).up hb); replace OC := hide ((uh OC).up hb); replace RS := hide ((uh RS).up hb); replace OD := hide ((uh OD).up hb); replace RG := hide ((uh RG).up hb); replace OE := hide ((uh OE).up hb); have sz11 := hide (hb.size); replace BB := hide (below_y (uh BB) hb); clear hb; have RM := oMh; clear oMh; have OF := OF_; clear OF_
 obtain ⟨w12, hF⟩ : ∃ X, X = w11.alloc (.cells ([.string ev.name, .int .i64 ev.valid, .int .i64 ev.next, .int .i64 ev.mod, .slice amF ev.mails.length cmF, .slice atF ev.tombs.length ctF, .int .i64 ev.hor] : List Value).toArray 50) := ⟨_, rfl⟩
 have Fx : HasObj w12 w11.heap.size 50 [.string ev.name, .int .i64 ev.valid, .int .i64 ev.next, .int .i64 ev.mod, .slice amF ev.mails.length cmF, .slice atF ev.tombs.length ctF, .int .i64 ev.hor] := by rw [hF]; exact HasObj.new _ _ _
 have hbn : Below w11.heap.size w11 w12 := by rw [hF]; exact (Below.refl _ _).alloc (Nat.le_refl _) _
 have neBF : w1.heap.size ≠ w11.heap.size := Nat.ne_of_lt (uh B).lt
 have neAF : w3.heap.size ≠ w11.heap.size := Nat.ne_of_lt (uh A).lt
 have neCF : w5.heap.size ≠ w11.heap.size := Nat.ne_of_lt (uh C).lt
 have neDF : w7.heap.size ≠ w11.heap.size := Nat.ne_of_lt (uh D).lt
 have neEF : w9.heap.size ≠ w11.heap.size := Nat.ne_of_lt (uh E).lt
 have loF : w.heap.size ≤ w11.heap.size := (uh BB).size
 have EF := hF.symm; clear hF; replace B := hide ((uh B).ups hbn); replace A := hide ((uh A).ups hbn); replace C := hide ((uh C).ups hbn); replace D := hide ((uh D).ups hbn); replace E := hide ((uh E).ups hbn); replace OB := hide ((uh OB).up hbn); replace OA := hide ((uh OA).up hbn); replace OC := hide ((uh OC).up hbn); replace RS := hide ((uh RS).up hbn); replace OD := hide ((uh OD).up hbn); replace RG := hide ((uh RG).up hbn); replace OE := hide ((uh OE).up hbn); replace RM := hide ((uh RM).up hbn); replace OF := hide ((uh OF).up hbn); have sz12 := hide (hbn.size); replace BB := hide (below_y (uh BB) hbn); clear hbn; have F := hide Fx; clear Fx; clear RS; go_wp2_with fail; clear EF
 refine (uh D3 _ (uh BB)).mono ?_
 rintro e w13 ⟨bH, mH, tH, vT, sT, how, bits, since, rfl, anyH, oH, oT, hlT, hb⟩
 obtain ⟨amH, cmH, rfl⟩ := g_shape oH.1
 obtain ⟨atH, ctH, rfl⟩ := g_shape oH.2
 have FTH := hide anyH.fit
 have l1H : bH.mails.length ≤ 1048576 := Nat.le_trans anyH.mails (by decide)
 have l2H : bH.tombs.length ≤ 1048576 := Nat.le_trans anyH.tombs (by decide)
 have OH_ := hide oH; clear oH anyH; have oTh := hide oT; clear oT; replace B := hide ((uh B).ups hb); replace A := hide ((uh A).ups hb); replace C := hide ((uh C).ups hb); replace D := hide ((uh D).ups hb); replace E := hide ((uh E).ups hb); replace F := hide ((uh F).ups hb); replace OB := hide ((uh OB).up hb); replace OA := hide ((uh OA).up hb); replace OC := hide ((uh OC).up hb); replace OD := hide ((uh OD).up hb); replace RG := hide ((uh RG).up hb); replace OE := hide ((uh OE).up hb); replace RM := hide ((uh RM).up hb); replace OF := hide ((uh OF).up hb); have sz13 := hide (hb.size); replace BB := hide (below_y (uh BB) hb); clear hb; have RT := oTh; clear oTh; have OH := OH_; clear OH_
 obtain ⟨w14, hH⟩ : ∃ X, X = w13.alloc (.cells ([.string bH.name, .int .i64 bH.valid, .int .i64 bH.next, .int .i64 bH.mod, .slice amH bH.mails.length cmH, .slice atH bH.tombs.length ctH, .int .i64 bH.hor] : List Value).toArray 50) := ⟨_, rfl⟩
 have Hx : HasObj w14 w13.heap.size 50 [.string bH.name, .int .i64 bH.valid, .int .i64 bH.next, .int .i64 bH.mod, .slice amH bH.mails.length cmH, .slice atH bH.tombs.length ctH, .int .i64 bH.hor] := by rw [hH]; exact HasObj.new _ _ _
 have hbn : Below w13.heap.size w13 w14 := by rw [hH]; exact (Below.refl _ _).alloc (Nat.le_refl _) _
 have neBH : w1.heap.size ≠ w13.heap.size := Nat.ne_of_lt (uh B).lt
 have neAH : w3.heap.size ≠ w13.heap.size := Nat.ne_of_lt (uh A).lt
 have neCH : w5.heap.size ≠ w13.heap.size := Nat.ne_of_lt (uh C).lt
 have neDH : w7.heap.size ≠ w13.heap.size := Nat.ne_of_lt (uh D).lt
 have neEH : w9.heap.size ≠ w13.heap.size := Nat.ne_of_lt (uh E).lt
 have neFH : w11.heap.size ≠ w13.heap.size := Nat.ne_of_lt (uh F).lt
 have loH : w.heap.size ≤ w13.heap.size := (uh BB).size
 have EH := hH.symm; clear hH; replace B := hide ((uh B).ups hbn); replace A := hide ((uh A).ups hbn); replace C := hide ((uh C).ups hbn); replace D := hide ((uh D).ups hbn); replace E := hide ((uh E).ups hbn); replace F := hide ((uh F).ups hbn); replace OB := hide ((uh OB).up hbn); replace OA := hide ((uh OA).up hbn); replace OC := hide ((uh OC).up hbn); replace OD := hide ((uh OD).up hbn); replace RG := hide ((uh RG).up hbn); replace OE := hide ((uh OE).up hbn); replace RM := hide ((uh RM).up hbn); replace OF := hide ((uh OF).up hbn); replace RT := hide ((uh RT).up hbn); replace OH := hide ((uh OH).up hbn); have sz14 := hide (hbn.size); replace BB := hide (below_y (uh BB) hbn); clear hbn; have H := hide Hx; clear Hx
 have hsT : sT.length ≤ 1048576 := by omega
 have FL := hide (flagsV_few bH sT how bits since l1H l2H)
 obtain ⟨fv, fd, fl, hFV⟩ : ∃ x y z, flagsV bH sT how bits since = (x, y, z) := ⟨_, _, _, rfl⟩
 rw [hFV] at FL
 simp only at FL
 have FV := hide hFV; clear hFV; have Hc0_5 := (uh H).cell 0 rfl; have Hc1_5 := (uh H).cell 1 rfl; have Hc2_5 := (uh H).cell 2 rfl; have Hc3_5 := (uh H).cell 3 rfl; have Hc4_5 := (uh H).cell 4 rfl; have Hc5_5 := (uh H).cell 5 rfl; have Hc6_5 := (uh H).cell 6 rfl; go_wp2_with fail; clear Hc0_5 Hc1_5 Hc2_5 Hc3_5 Hc4_5 Hc5_5 Hc6_5 EH
 refine (impl_SetFlags_any bH _ _ _ sT _ how bits since _ (uh FTH) hsT (OwnR.wide (uh RT)) (uh OH)).mono ?_
 rintro e w15 ⟨mI, tI, vDn, vLt, rfl, oI, oDn, oLt, _, hb⟩
 rw [uh FV] at oI oDn oLt ⊢
 simp only at oI oDn oLt ⊢
 obtain ⟨amI, cmI, rfl⟩ := g_shape oI.1
 obtain ⟨atI, ctI, rfl⟩ := g_shape oI.2
 have OI_ := hide oI; clear oI; have oDnh := hide oDn; clear oDn; have oLth := hide oLt; clear oLt; replace B := hide ((uh B).ups hb); replace A := hide ((uh A).ups hb); replace C := hide ((uh C).ups hb); replace D := hide ((uh D).ups hb); replace E := hide ((uh E).ups hb); replace F := hide ((uh F).ups hb); replace H := hide ((uh H).ups hb); replace OB := hide ((uh OB).up hb); replace OA := hide ((uh OA).up hb); replace OC := hide ((uh OC).up hb); replace OD := hide ((uh OD).up hb); replace RG := hide ((uh RG).up hb); replace OE := hide ((uh OE).up hb); replace RM := hide ((uh RM).up hb); replace OF := hide ((uh OF).up hb); replace RT := hide ((uh RT).up hb); replace OH := hide ((uh OH).up hb); have sz15 := hide (hb.size); replace BB := hide (below_y (uh BB) hb); clear hb; have RDn := oDnh; clear oDnh; have RLt := oLth; clear oLth; have OI := OI_; clear OI_
 obtain ⟨w16, hI⟩ : ∃ X, X = w15.alloc (.cells ([.string fv.name, .int .i64 fv.valid, .int .i64 fv.next, .int .i64 fv.mod, .slice amI fv.mails.length cmI, .slice atI fv.tombs.length ctI, .int .i64 fv.hor] : List Value).toArray 50) := ⟨_, rfl⟩
 have Ix : HasObj w16 w15.heap.size 50 [.string fv.name, .int .i64 fv.valid, .int .i64 fv.next, .int .i64 fv.mod, .slice amI fv.mails.length cmI, .slice atI fv.tombs.length ctI, .int .i64 fv.hor] := by rw [hI]; exact HasObj.new _ _ _
 have hbn : Below w15.heap.size w15 w16 := by rw [hI]; exact (Below.refl _ _).alloc (Nat.le_refl _) _
 have neBI : w1.heap.size ≠ w15.heap.size := Nat.ne_of_lt (uh B).lt
 have neAI : w3.heap.size ≠ w15.heap.size := Nat.ne_of_lt (uh A).lt
 have neCI : w5.heap.size ≠ w15.heap.size := Nat.ne_of_lt (uh C).lt
 have neDI : w7.heap.size ≠ w15.heap.size := Nat.ne_of_lt (uh D).lt
 have neEI : w9.heap.size ≠ w15.heap.size := Nat.ne_of_lt (uh E).lt
 have neFI : w11.heap.size ≠ w15.heap.size := Nat.ne_of_lt (uh F).lt
 have neHI : w13.heap.size ≠ w15.heap.size := Nat.ne_of_lt (uh H).lt
 have loI : w.heap.size ≤ w15.heap.size := (uh BB).size
 have EI := hI.symm; clear hI; replace B := hide ((uh B).ups hbn); replace A := hide ((uh A).ups hbn); replace C := hide ((uh C).ups hbn); replace D := hide ((uh D).ups hbn); replace E := hide ((uh E).ups hbn); replace F := hide ((uh F).ups hbn); replace H := hide ((uh H).ups hbn); replace OB := hide ((uh OB).up hbn); replace OA := hide ((uh OA).up hbn); replace OC := hide ((uh OC).up hbn); replace OD := hide ((uh OD).up hbn); replace RG := hide ((uh RG).up hbn); replace OE := hide ((uh OE).up hbn); replace RM := hide ((uh RM).up hbn); replace OF := hide ((uh OF).up hbn); replace RT := hide ((uh RT).up hbn); replace OH := hide ((uh OH).up hbn); replace RDn := hide ((uh RDn).up hbn); replace RLt := hide ((uh RLt).up hbn); replace OI := hide ((uh OI).up hbn); have sz16 := hide (hbn.size); replace BB := hide (below_y (uh BB) hbn); clear hbn; have I := hide Ix; clear Ix; have Hc0_6 := (uh H).cell 0 rfl; have Hc1_6 := (uh H).cell 1 rfl; have Hc2_6 := (uh H).cell 2 rfl; have Hc3_6 := (uh H).cell 3 rfl; have Hc4_6 := (uh H).cell 4 rfl; have Hc5_6 := (uh H).cell 5 rfl; have Hc6_6 := (uh H).cell 6 rfl; go_wp2_with fail; clear Hc0_6 Hc1_6 Hc2_6 Hc3_6 Hc4_6 Hc5_6 Hc6_6 EI
 refine (spec_SetFlags_any bH _ _ _ sT _ how bits since _ (uh FTH) hsT (OwnR.read (uh RT)) (uh OH)).mono ?_
 rintro e w17 ⟨mJ, tJ, vXx, vYy, rfl, oJ, oXx, oYy, hb⟩
 rw [uh FV] at oJ oXx oYy ⊢
 simp only at oJ oXx oYy ⊢
 obtain ⟨amJ, cmJ, rfl⟩ := g_shape oJ.1
 obtain ⟨atJ, ctJ, rfl⟩ := g_shape oJ.2
 have OJ_ := hide oJ; clear oJ; have oXxh := hide oXx; clear oXx; have oYyh := hide oYy; clear oYy; replace B := hide ((uh B).ups hb); replace A := hide ((uh A).ups hb); replace C := hide ((uh C).ups hb); replace D := hide ((uh D).ups hb); replace E := hide ((uh E).ups hb); replace F := hide ((uh F).ups hb); replace H := hide ((uh H).ups hb); replace I := hide ((uh I).ups hb); replace OB := hide ((uh OB).up hb); replace OA := hide ((uh OA).up hb); replace OC := hide ((uh OC).up hb); replace OD := hide ((uh OD).up hb); replace RG := hide ((uh RG).up hb); replace OE := hide ((uh OE).up hb); replace RM := hide ((uh RM).up hb); replace OF := hide ((uh OF).up hb); replace RT := hide ((uh RT).up hb); replace OH := hide ((uh OH).up hb); replace RDn := hide ((uh RDn).up hb); replace RLt := hide ((uh RLt).up hb); replace OI := hide ((uh OI).up hb); have sz17 := hide (hb.size); replace BB := hide (below_y (uh BB) hb); clear hb; have RXx := oXxh; clear oXxh; have RYy := oYyh; clear oYyh; have OJ := OJ_; clear OJ_
 obtain ⟨w18, hJ⟩ : ∃ X, X = w17.alloc (.cells ([.string fv.name, .int .i64 fv.valid, .int .i64 fv.next, .int .i64 fv.mod, .slice amJ fv.mails.length cmJ, .slice atJ fv.tombs.length ctJ, .int .i64 fv.hor] : List Value).toArray 50) := ⟨_, rfl⟩
 have Jx : HasObj w18 w17.heap.size 50 [.string fv.name, .int .i64 fv.valid, .int .i64 fv.next, .int .i64 fv.mod, .slice amJ fv.mails.length cmJ, .slice atJ fv.tombs.length ctJ, .int .i64 fv.hor] := by rw [hJ]; exact HasObj.new _ _ _
 have hbn : Below w17.heap.size w17 w18 := by rw [hJ]; exact (Below.refl _ _).alloc (Nat.le_refl _) _
 have neBJ : w1.heap.size ≠ w17.heap.size := Nat.ne_of_lt (uh B).lt
 have neAJ : w3.heap.size ≠ w17.heap.size := Nat.ne_of_lt (uh A).lt
 have neCJ : w5.heap.size ≠ w17.heap.size := Nat.ne_of_lt (uh C).lt
 have neDJ : w7.heap.size ≠ w17.heap.size := Nat.ne_of_lt (uh D).lt
 have neEJ : w9.heap.size ≠ w17.heap.size := Nat.ne_of_lt (uh E).lt
 have neFJ : w11.heap.size ≠ w17.heap.size := Nat.ne_of_lt (uh F).lt
 have neHJ : w13.heap.size ≠ w17.heap.size := Nat.ne_of_lt (uh H).lt
 have neIJ : w15.heap.size ≠ w17.heap.size := Nat.ne_of_lt (uh I).lt
 have loJ : w.heap.size ≤ w17.heap.size := (uh BB).size
 have EJ := hJ.symm; clear hJ; replace B := hide ((uh B).ups hbn); replace A := hide ((uh A).ups hbn); replace C := hide ((uh C).ups hbn); replace D := hide ((uh D).ups hbn); replace E := hide ((uh E).ups hbn); replace F := hide ((uh F).ups hbn); replace H := hide ((uh H).ups hbn); replace I := hide ((uh I).ups hbn); replace OB := hide ((uh OB).up hbn); replace OA := hide ((uh OA).up hbn); replace OC := hide ((uh OC).up hbn); replace OD := hide ((uh OD).up hbn); replace RG := hide ((uh RG).up hbn); replace OE := hide ((uh OE).up hbn); replace RM := hide ((uh RM).up hbn); replace OF := hide ((uh OF).up hbn); replace RT := hide ((uh RT).up hbn); replace OH := hide ((uh OH).up hbn); replace RDn := hide ((uh RDn).up hbn); replace RLt := hide ((uh RLt).up hbn); replace OI := hide ((uh OI).up hbn); replace RXx := hide ((uh RXx).up hbn); replace RYy := hide ((uh RYy).up hbn); replace OJ := hide ((uh OJ).up hbn); have sz18 := hide (hbn.size); replace BB := hide (below_y (uh BB) hbn); clear hbn; have J := hide Jx; clear Jx; clear RT; go_wp2_with fail; clear EJ
 refine (uh D4 _ (uh BB)).mono ?_
 rintro e w19 ⟨bZ, mZ, tZ, upto, rfl, anyZ, oZ, hb⟩
 obtain ⟨amZ, cmZ, rfl⟩ := g_shape oZ.1
 obtain ⟨atZ, ctZ, rfl⟩ := g_shape oZ.2
 have FTZ := hide anyZ.fit
 have l1Z : bZ.mails.length ≤ 1048576 := Nat.le_trans anyZ.mails (by decide)
 have l2Z : bZ.tombs.length ≤ 1048576 := Nat.le_trans anyZ.tombs (by decide)
 have OZ_ := hide oZ; clear oZ anyZ; replace B := hide ((uh B).ups hb); replace A := hide ((uh A).ups hb); replace C := hide ((uh C).ups hb); replace D := hide ((uh D).ups hb); replace E := hide ((uh E).ups hb); replace F := hide ((uh F).ups hb); replace H := hide ((uh H).ups hb); replace I := hide ((uh I).ups hb); replace J := hide ((uh J).ups hb); replace OB := hide ((uh OB).up hb); replace OA := hide ((uh OA).up hb); replace OC := hide ((uh OC).up hb); replace OD := hide ((uh OD).up hb); replace RG := hide ((uh RG).up hb); replace OE := hide ((uh OE).up hb); replace RM := hide ((uh RM).up hb); replace OF := hide ((uh OF).up hb); replace OH := hide ((uh OH).up hb); replace RDn := hide ((uh RDn).up hb); replace RLt := hide ((uh RLt).up hb); replace OI := hide ((uh OI).up hb); replace RXx := hide ((uh RXx).up hb); replace RYy := hide ((uh RYy).up hb); replace OJ := hide ((uh OJ).up hb); have sz19 := hide (hb.size); replace BB := hide (below_y (uh BB) hb); clear hb; have OZ := OZ_; clear OZ_
 obtain ⟨w20, hZ⟩ : ∃ X, X = w19.alloc (.cells ([.string bZ.name, .int .i64 bZ.valid, .int .i64 bZ.next, .int .i64 bZ.mod, .slice amZ bZ.mails.length cmZ, .slice atZ bZ.tombs.length ctZ, .int .i64 bZ.hor] : List Value).toArray 50) := ⟨_, rfl⟩
 have Zx : HasObj w20 w19.heap.size 50 [.string bZ.name, .int .i64 bZ.valid, .int .i64 bZ.next, .int .i64 bZ.mod, .slice amZ bZ.mails.length cmZ, .slice atZ bZ.tombs.length ctZ, .int .i64 bZ.hor] := by rw [hZ]; exact HasObj.new _ _ _
 have hbn : Below w19.heap.size w19 w20 := by rw [hZ]; exact (Below.refl _ _).alloc (Nat.le_refl _) _
 have neBZ : w1.heap.size ≠ w19.heap.size := Nat.ne_of_lt (uh B).lt
 have neAZ : w3.heap.size ≠ w19.heap.size := Nat.ne_of_lt (uh A).lt
 have neCZ : w5.heap.size ≠ w19.heap.size := Nat.ne_of_lt (uh C).lt
 have neDZ : w7.heap.size ≠ w19.heap.size := Nat.ne_of_lt (uh D).lt
 have neEZ : w9.heap.size ≠ w19.heap.size := Nat.ne_of_lt (uh E).lt
 have neFZ : w11.heap.size ≠ w19.heap.size := Nat.ne_of_lt (uh F).lt
 have neHZ : w13.heap.size ≠ w19.heap.size := Nat.ne_of_lt (uh H).lt
 have neIZ : w15.heap.size ≠ w19.heap.size := Nat.ne_of_lt (uh I).lt
 have neJZ : w17.heap.size ≠ w19.heap.size := Nat.ne_of_lt (uh J).lt
 have loZ : w.heap.size ≤ w19.heap.size := (uh BB).size
 have EZ := hZ.symm; clear hZ; replace B := hide ((uh B).ups hbn); replace A := hide ((uh A).ups hbn); replace C := hide ((uh C).ups hbn); replace D := hide ((uh D).ups hbn); replace E := hide ((uh E).ups hbn); replace F := hide ((uh F).ups hbn); replace H := hide ((uh H).ups hbn); replace I := hide ((uh I).ups hbn); replace J := hide ((uh J).ups hbn); replace OB := hide ((uh OB).up hbn); replace OA := hide ((uh OA).up hbn); replace OC := hide ((uh OC).up hbn); replace OD := hide ((uh OD).up hbn); replace RG := hide ((uh RG).up hbn); replace OE := hide ((uh OE).up hbn); replace RM := hide ((uh RM).up hbn); replace OF := hide ((uh OF).up hbn); replace OH := hide ((uh OH).up hbn); replace RDn := hide ((uh RDn).up hbn); replace RLt := hide ((uh RLt).up hbn); replace OI := hide ((uh OI).up hbn); replace RXx := hide ((uh RXx).up hbn); replace RYy := hide ((uh RYy).up hbn); replace OJ := hide ((uh OJ).up hbn); replace OZ := hide ((uh OZ).up hbn); have sz20 := hide (hbn.size); replace BB := hide (below_y (uh BB) hbn); clear hbn; have Z := hide Zx; clear Zx; have GL := hide (forgetV_few bZ upto l1Z l2Z)
 obtain ⟨gv, hGV⟩ : ∃ x, forgetV bZ upto = x := ⟨_, rfl⟩
 rw [hGV] at GL
 have GV := hide hGV; clear hGV; go_wp2_with fail; clear EZ
 refine (uh D5 _ (uh BB)).mono ?_
 rintro e w21 ⟨nm, vd, rfl, hnm, hb⟩
 replace B := hide ((uh B).ups hb); replace A := hide ((uh A).ups hb); replace C := hide ((uh C).ups hb); replace D := hide ((uh D).ups hb); replace E := hide ((uh E).ups hb); replace F := hide ((uh F).ups hb); replace H := hide ((uh H).ups hb); replace I := hide ((uh I).ups hb); replace J := hide ((uh J).ups hb); replace Z := hide ((uh Z).ups hb); replace OB := hide ((uh OB).up hb); replace OA := hide ((uh OA).up hb); replace OC := hide ((uh OC).up hb); replace OD := hide ((uh OD).up hb); replace RG := hide ((uh RG).up hb); replace OE := hide ((uh OE).up hb); replace RM := hide ((uh RM).up hb); replace OF := hide ((uh OF).up hb); replace OH := hide ((uh OH).up hb); replace RDn := hide ((uh RDn).up hb); replace RLt := hide ((uh RLt).up hb); replace OI := hide ((uh OI).up hb); replace RXx := hide ((uh RXx).up hb); replace RYy := hide ((uh RYy).up hb); replace OJ := hide ((uh OJ).up hb); replace OZ := hide ((uh OZ).up hb); have sz21 := hide (hb.size); replace BB := hide (below_y (uh BB) hb); clear hb; have NT := hide (newV_told nm vd); have NR := hide (newV_rows nm vd)
 obtain ⟨nv, ok, hNV⟩ : ∃ x y, newV nm vd = (x, y) := ⟨_, _, rfl⟩
 rw [hNV] at NT NR
 simp only at NT NR
 have NV := hide hNV; clear hNV; go_wp2_with fail
 refine (impl_BoxNew_any nm vd _ hnm).mono ?_
 rintro e w22 ⟨rfl, hb⟩
 replace B := hide ((uh B).ups hb); replace A := hide ((uh A).ups hb); replace C := hide ((uh C).ups hb); replace D := hide ((uh D).ups hb); replace E := hide ((uh E).ups hb); replace F := hide ((uh F).ups hb); replace H := hide ((uh H).ups hb); replace I := hide ((uh I).ups hb); replace J := hide ((uh J).ups hb); replace Z := hide ((uh Z).ups hb); replace OB := hide ((uh OB).up hb); replace OA := hide ((uh OA).up hb); replace OC := hide ((uh OC).up hb); replace OD := hide ((uh OD).up hb); replace RG := hide ((uh RG).up hb); replace OE := hide ((uh OE).up hb); replace RM := hide ((uh RM).up hb); replace OF := hide ((uh OF).up hb); replace OH := hide ((uh OH).up hb); replace RDn := hide ((uh RDn).up hb); replace RLt := hide ((uh RLt).up hb); replace OI := hide ((uh OI).up hb); replace RXx := hide ((uh RXx).up hb); replace RYy := hide ((uh RYy).up hb); replace OJ := hide ((uh OJ).up hb); replace OZ := hide ((uh OZ).up hb); have sz22 := hide (hb.size); replace BB := hide (below_y (uh BB) hb); clear hb
 rw [uh NV]
 simp only
 obtain ⟨w23, hL⟩ : ∃ X, X = w22.alloc (.cells ([.string nv.name, .int .i64 nv.valid, .int .i64 nv.next, .int .i64 nv.mod, .slice none 0 0, .slice none 0 0, .int .i64 nv.hor] : List Value).toArray 50) := ⟨_, rfl⟩
 have Lx : HasObj w23 w22.heap.size 50 [.string nv.name, .int .i64 nv.valid, .int .i64 nv.next, .int .i64 nv.mod, .slice none 0 0, .slice none 0 0, .int .i64 nv.hor] := by rw [hL]; exact HasObj.new _ _ _
 have hbn : Below w22.heap.size w22 w23 := by rw [hL]; exact (Below.refl _ _).alloc (Nat.le_refl _) _
 have neBL : w1.heap.size ≠ w22.heap.size := Nat.ne_of_lt (uh B).lt
 have neAL : w3.heap.size ≠ w22.heap.size := Nat.ne_of_lt (uh A).lt
 have neCL : w5.heap.size ≠ w22.heap.size := Nat.ne_of_lt (uh C).lt
 have neDL : w7.heap.size ≠ w22.heap.size := Nat.ne_of_lt (uh D).lt
 have neEL : w9.heap.size ≠ w22.heap.size := Nat.ne_of_lt (uh E).lt
 have neFL : w11.heap.size ≠ w22.heap.size := Nat.ne_of_lt (uh F).lt
 have neHL : w13.heap.size ≠ w22.heap.size := Nat.ne_of_lt (uh H).lt
 have neIL : w15.heap.size ≠ w22.heap.size := Nat.ne_of_lt (uh I).lt
 have neJL : w17.heap.size ≠ w22.heap.size := Nat.ne_of_lt (uh J).lt
 have neZL : w19.heap.size ≠ w22.heap.size := Nat.ne_of_lt (uh Z).lt
 have loL : w.heap.size ≤ w22.heap.size := (uh BB).size
 have EL := hL.symm; clear hL; replace B := hide ((uh B).ups hbn); replace A := hide ((uh A).ups hbn); replace C := hide ((uh C).ups hbn); replace D := hide ((uh D).ups hbn); replace E := hide ((uh E).ups hbn); replace F := hide ((uh F).ups hbn); replace H := hide ((uh H).ups hbn); replace I := hide ((uh I).ups hbn); replace J := hide ((uh J).ups hbn); replace Z := hide ((uh Z).ups hbn); replace OB := hide ((uh OB).up hbn); replace OA := hide ((uh OA).up hbn); replace OC := hide ((uh OC).up hbn); replace OD := hide ((uh OD).up hbn); replace RG := hide ((uh RG).up hbn); replace OE := hide ((uh OE).up hbn); replace RM := hide ((uh RM).up hbn); replace OF := hide ((uh OF).up hbn); replace OH := hide ((uh OH).up hbn); replace RDn := hide ((uh RDn).up hbn); replace RLt := hide ((uh RLt).up hbn); replace OI := hide ((uh OI).up hbn); replace RXx := hide ((uh RXx).up hbn); replace RYy := hide ((uh RYy).up hbn); replace OJ := hide ((uh OJ).up hbn); replace OZ := hide ((uh OZ).up hbn); have sz23 := hide (hbn.size); replace BB := hide (below_y (uh BB) hbn); clear hbn; have L := hide Lx; clear Lx; go_wp2_with fail; clear EL
 refine (spec_BoxNew_any nm vd _ hnm).mono ?_
 rintro e w24 ⟨rfl, hb⟩
 replace B := hide ((uh B).ups hb); replace A := hide ((uh A).ups hb); replace C := hide ((uh C).ups hb); replace D := hide ((uh D).ups hb); replace E := hide ((uh E).ups hb); replace F := hide ((uh F).ups hb); replace H := hide ((uh H).ups hb); replace I := hide ((uh I).ups hb); replace J := hide ((uh J).ups hb); replace Z := hide ((uh Z).ups hb); replace L := hide ((uh L).ups hb); replace OB := hide ((uh OB).up hb); replace OA := hide ((uh OA).up hb); replace OC := hide ((uh OC).up hb); replace OD := hide ((uh OD).up hb); replace RG := hide ((uh RG).up hb); replace OE := hide ((uh OE).up hb); replace RM := hide ((uh RM).up hb); replace OF := hide ((uh OF).up hb); replace OH := hide ((uh OH).up hb); replace RDn := hide ((uh RDn).up hb); replace RLt := hide ((uh RLt).up hb); replace OI := hide ((uh OI).up hb); replace RXx := hide ((uh RXx).up hb); replace RYy := hide ((uh RYy).up hb); replace OJ := hide ((uh OJ).up hb); replace OZ := hide ((uh OZ).up hb); have sz24 := hide (hb.size); replace BB := hide (below_y (uh BB) hb); clear hb
 rw [uh NV]
 simp only
 obtain ⟨w25, hP⟩ : ∃ X, X = w24.alloc (.cells ([.string nv.name, .int .i64 nv.valid, .int .i64 nv.next, .int .i64 nv.mod, .slice none 0 0, .slice none 0 0, .int .i64 nv.hor] : List Value).toArray 50) := ⟨_, rfl⟩
 have Px : HasObj w25 w24.heap.size 50 [.string nv.name, .int .i64 nv.valid, .int .i64 nv.next, .int .i64 nv.mod, .slice none 0 0, .slice none 0 0, .int .i64 nv.hor] := by rw [hP]; exact HasObj.new _ _ _
 have hbn : Below w24.heap.size w24 w25 := by rw [hP]; exact (Below.refl _ _).alloc (Nat.le_refl _) _
 have neBP : w1.heap.size ≠ w24.heap.size := Nat.ne_of_lt (uh B).lt
 have neAP : w3.heap.size ≠ w24.heap.size := Nat.ne_of_lt (uh A).lt
 have neCP : w5.heap.size ≠ w24.heap.size := Nat.ne_of_lt (uh C).lt
 have neDP : w7.heap.size ≠ w24.heap.size := Nat.ne_of_lt (uh D).lt
 have neEP : w9.heap.size ≠ w24.heap.size := Nat.ne_of_lt (uh E).lt
 have neFP : w11.heap.size ≠ w24.heap.size := Nat.ne_of_lt (uh F).lt
 have neHP : w13.heap.size ≠ w24.heap.size := Nat.ne_of_lt (uh H).lt
 have neIP : w15.heap.size ≠ w24.heap.size := Nat.ne_of_lt (uh I).lt
 have neJP : w17.heap.size ≠ w24.heap.size := Nat.ne_of_lt (uh J).lt
 have neZP : w19.heap.size ≠ w24.heap.size := Nat.ne_of_lt (uh Z).lt
 have neLP : w22.heap.size ≠ w24.heap.size := Nat.ne_of_lt (uh L).lt
 have loP : w.heap.size ≤ w24.heap.size := (uh BB).size
 have EP := hP.symm; clear hP; replace B := hide ((uh B).ups hbn); replace A := hide ((uh A).ups hbn); replace C := hide ((uh C).ups hbn); replace D := hide ((uh D).ups hbn); replace E := hide ((uh E).ups hbn); replace F := hide ((uh F).ups hbn); replace H := hide ((uh H).ups hbn); replace I := hide ((uh I).ups hbn); replace J := hide ((uh J).ups hbn); replace Z := hide ((uh Z).ups hbn); replace L := hide ((uh L).ups hbn); replace OB := hide ((uh OB).up hbn); replace OA := hide ((uh OA).up hbn); replace OC := hide ((uh OC).up hbn); replace OD := hide ((uh OD).up hbn); replace RG := hide ((uh RG).up hbn); replace OE := hide ((uh OE).up hbn); replace RM := hide ((uh RM).up hbn); replace OF := hide ((uh OF).up hbn); replace OH := hide ((uh OH).up hbn); replace RDn := hide ((uh RDn).up hbn); replace RLt := hide ((uh RLt).up hbn); replace OI := hide ((uh OI).up hbn); replace RXx := hide ((uh RXx).up hbn); replace RYy := hide ((uh RYy).up hbn); replace OJ := hide ((uh OJ).up hbn); replace OZ := hide ((uh OZ).up hbn); have sz25 := hide (hbn.size); replace BB := hide (below_y (uh BB) hbn); clear hbn; have P := hide Px; clear Px; clear D1 D2 D3 D4 D5 Q0
 go_wp2
 clear EP
 refine wp_region_held_drew (S := fun w' => HasObj w' (w3.heap.size) 50 [.string av.name, .int .i64 av.valid, .int .i64 av.next, .int .i64 av.mod, .slice amA av.mails.length cmA, .slice atA av.tombs.length ctA, .int .i64 av.hor] ∧ HasObj w' (w1.heap.size) 50 [.string bB.name, .int .i64 bB.valid, .int .i64 bB.next, .int .i64 bB.mod, .slice amB bB.mails.length cmB, .slice atB bB.tombs.length ctB, .int .i64 bB.hor] ∧ HasObj w' (w5.heap.size) 50 [.string av.name, .int .i64 av.valid, .int .i64 av.next, .int .i64 av.mod, .slice amC av.mails.length cmC, .slice atC av.tombs.length ctC, .int .i64 av.hor] ∧ HasObj w' (w9.heap.size) 50 [.string ev.name, .int .i64 ev.valid, .int .i64 ev.next, .int .i64 ev.mod, .slice amE ev.mails.length cmE, .slice atE ev.tombs.length ctE, .int .i64 ev.hor] ∧ HasObj w' (w11.heap.size) 50 [.string ev.name, .int .i64 ev.valid, .int .i64 ev.next, .int .i64 ev.mod, .slice amF ev.mails.length cmF, .slice atF ev.tombs.length ctF, .int .i64 ev.hor] ∧ HasObj w' (w15.heap.size) 50 [.string fv.name, .int .i64 fv.valid, .int .i64 fv.next, .int .i64 fv.mod, .slice amI fv.mails.length cmI, .slice atI fv.tombs.length ctI, .int .i64 fv.hor] ∧ HasObj w' (w17.heap.size) 50 [.string fv.name, .int .i64 fv.valid, .int .i64 fv.next, .int .i64 fv.mod, .slice amJ fv.mails.length cmJ, .slice atJ fv.tombs.length ctJ, .int .i64 fv.hor] ∧ HasObj w' (w19.heap.size) 50 [.string bZ.name, .int .i64 bZ.valid, .int .i64 bZ.next, .int .i64 bZ.mod, .slice amZ bZ.mails.length cmZ, .slice atZ bZ.tombs.length ctZ, .int .i64 bZ.hor] ∧ HasObj w' (w22.heap.size) 50 [.string nv.name, .int .i64 nv.valid, .int .i64 nv.next, .int .i64 nv.mod, .slice none 0 0, .slice none 0 0, .int .i64 nv.hor]) (by kernel_rfl) (⟨uh A, uh B, uh C, uh E, uh F, uh I, uh J, uh Z, uh L⟩) (fun hHeld => ?_)
 have BR : Hid (Below w25.heap.size w25 w25.drew) := (Below.refl _ _).drew
 refine takeVal 0 (some 124) ?_ rfl (by kernel_rfl) (by kernel_rfl) (by kernel_rfl) rfl (fun _ _ _ h => h) (by rfl) (by assumption) ?_ ?_; rotate_left; (intro w hSw; (try dsimp only at hSw); clear hSw; go_simp <;> with_reducible rfl); simp only [Act.put, p1, p2, p3]
 refine takeVal 1 (some 125) ?_ rfl (by kernel_rfl) (by kernel_rfl) (by kernel_rfl) rfl (fun _ _ _ h => h) (by rfl) (by assumption) ?_ ?_; rotate_left; (intro w hSw; (try dsimp only at hSw); clear hSw; go_simp <;> with_reducible rfl); simp only [Act.put, p1, p2, p3]
 refine takeVal 2 (some 126) ?_ rfl (by kernel_rfl) (by kernel_rfl) (by kernel_rfl) rfl (fun _ _ _ h => h) (by rfl) (by assumption) ?_ ?_; rotate_left; (intro w hSw; (try dsimp only at hSw); clear hSw; go_simp <;> with_reducible rfl); simp only [Act.put, p1, p2, p3]
 refine takeVal 3 (some 127) ?_ rfl (by kernel_rfl) (by kernel_rfl) (by kernel_rfl) rfl (fun _ _ _ h => h) (by rfl) (by assumption) ?_ ?_; rotate_left; (intro w hSw; (try dsimp only at hSw); clear hSw; go_simp <;> with_reducible rfl); simp only [Act.put, p1, p2, p3]
 refine takeVal 4 (some 128) ?_ rfl (by kernel_rfl) (by kernel_rfl) (by kernel_rfl) rfl (fun _ _ _ h => h) (by rfl) (by assumption) ?_ ?_; rotate_left; (intro w hSw; (try dsimp only at hSw); have hO := hSw.1; clear hSw; have c0 := hO.cell 0 rfl; have c1 := hO.cell 1 rfl; have c2 := hO.cell 2 rfl; have c3 := hO.cell 3 rfl; have c4 := hO.cell 4 rfl; have c5 := hO.cell 5 rfl; have c6 := hO.cell 6 rfl; clear hO; go_simp <;> with_reducible rfl); simp only [Act.put, p1, p2, p3]
 refine takeVal 5 (some 129) ?_ rfl (by kernel_rfl) (by kernel_rfl) (by kernel_rfl) rfl (fun _ _ _ h => h) (by rfl) (by assumption) ?_ ?_; rotate_left; (intro w hSw; (try dsimp only at hSw); have hO := hSw.2.2.1; clear hSw; have c0 := hO.cell 0 rfl; have c1 := hO.cell 1 rfl; have c2 := hO.cell 2 rfl; have c3 := hO.cell 3 rfl; have c4 := hO.cell 4 rfl; have c5 := hO.cell 5 rfl; have c6 := hO.cell 6 rfl; clear hO; go_simp <;> with_reducible rfl); simp only [Act.put, p1, p2, p3]
 refine wpAnyH_ready (rs := [6]) (by kernel_rfl) (by simp) ?_
 refine AllReadyH.cons rfl (fun K hK => ?_) AllReadyH.nil
 go_simp
 refine (sameBox_same av _ _ _ _ _ _ _ (uh AL).1 (uh AL).2 ((uh OA).up (uh BR)) ((uh OC).up (uh BR))).mono ?_
 rintro e w26 ⟨rfl, hb⟩
 have BR_ : Hid (Below w25.heap.size w25 w26) := below_y (uh BR) hb
 clear BR hb; have BR := BR_; clear BR_; go_wp2_with fail
 refine hK.out _ _ (⟨(uh A).ups (uh BR), (uh B).ups (uh BR), (uh C).ups (uh BR), (uh E).ups (uh BR), (uh F).ups (uh BR), (uh I).ups (uh BR), (uh J).ups (uh BR), (uh Z).ups (uh BR), (uh L).ups (uh BR)⟩) (fun hHeld2 => ?_)
 clear hK K hHeld; have hHeld := hHeld2; clear hHeld2
 try simp only [Act.put, p1, p2, p3]
 refine takeVal 7 (some 131) ?_ rfl (by kernel_rfl) (by kernel_rfl) (by kernel_rfl) rfl (fun _ _ _ h => h) (by rfl) (by assumption) ?_ ?_; rotate_left; (intro w hSw; (try dsimp only at hSw); clear hSw; go_simp <;> with_reducible rfl); simp only [Act.put, p1, p2, p3]
 refine takeVal 8 (some 132) ?_ rfl (by kernel_rfl) (by kernel_rfl) (by kernel_rfl) rfl (fun _ _ _ h => h) (by rfl) (by assumption) ?_ ?_; rotate_left; (intro w hSw; (try dsimp only at hSw); clear hSw; go_simp <;> with_reducible rfl); simp only [Act.put, p1, p2, p3]
 refine takeVal 9 (some 133) ?_ rfl (by kernel_rfl) (by kernel_rfl) (by kernel_rfl) rfl (fun _ _ _ h => h) (by rfl) (by assumption) ?_ ?_; rotate_left; (intro w hSw; (try dsimp only at hSw); clear hSw; go_simp <;> with_reducible rfl); simp only [Act.put, p1, p2, p3]
 by_cases hu : 0 < uid
 ·have du : decide (0 < uid) = true := decide_eq_true hu
  refine takeVal 10 (some 134) ?_ rfl (by kernel_rfl) (by kernel_rfl) (by kernel_rfl) rfl (fun _ _ _ h => h) (by rfl) (by assumption) ?_ ?_; rotate_left; (intro w hSw; (try dsimp only at hSw); clear hSw; go_simp <;> with_reducible rfl); simp only [Act.put, p1, p2, p3]
  refine takeVal 11 (some 135) ?_ rfl (by kernel_rfl) (by kernel_rfl) (by kernel_rfl) rfl (fun _ _ _ h => h) (by rfl) (by assumption) ?_ ?_; rotate_left; (intro w hSw; (try dsimp only at hSw); clear hSw; go_simp <;> with_reducible rfl); simp only [Act.put, p1, p2, p3]
  clear du
  refine tk 12 136 ?_; refine tk 13 137 ?_; refine tk 14 138 ?_
  refine takeVal 15 (some 139) ?_ rfl (by kernel_rfl) (by kernel_rfl) (by kernel_rfl) rfl (fun _ _ _ h => h) (by rfl) (by assumption) ?_ ?_; rotate_left; (intro w hSw; (try dsimp only at hSw); clear hSw; go_simp <;> with_reducible rfl); simp only [Act.put, p1, p2, p3]
  refine takeVal 16 (some 140) ?_ rfl (by kernel_rfl) (by kernel_rfl) (by kernel_rfl) rfl (fun _ _ _ h => h) (by rfl) (by assumption) ?_ ?_; rotate_left; (intro w hSw; (try dsimp only at hSw); clear hSw; go_simp <;> with_reducible rfl); simp only [Act.put, p1, p2, p3]
  refine takeVal 17 (some 141) ?_ rfl (by kernel_rfl) (by kernel_rfl) (by kernel_rfl) rfl (fun _ _ _ h => h) (by rfl) (by assumption) ?_ ?_; rotate_left; (intro w hSw; (try dsimp only at hSw); clear hSw; go_simp <;> with_reducible rfl); simp only [Act.put, p1, p2, p3]
  refine takeVal 18 (some 142) ?_ rfl (by kernel_rfl) (by kernel_rfl) (by kernel_rfl) rfl (fun _ _ _ h => h) (by rfl) (by assumption) ?_ ?_; rotate_left; (intro w hSw; (try dsimp only at hSw); clear hSw; go_simp <;> with_reducible rfl); simp only [Act.put, p1, p2, p3]
  refine takeVal 19 (some 143) ?_ rfl (by kernel_rfl) (by kernel_rfl) (by kernel_rfl) rfl (fun _ _ _ h => h) (by rfl) (by assumption) ?_ ?_; rotate_left; (intro w hSw; (try dsimp only at hSw); clear hSw; go_simp <;> with_reducible rfl); simp only [Act.put, p1, p2, p3]
  refine wpAnyH_ready (rs := [20]) (by kernel_rfl) (by simp) ?_
  refine AllReadyH.cons rfl (fun K hK => ?_) AllReadyH.nil
  go_simp
  refine (sameSet_told es _ _ _ _ _ (uh EL).2.2 ((uh RG).up (uh BR)) ((uh RM).up (uh BR))).mono ?_
  rintro e wy27 ⟨rfl, hb⟩
  have BR_ : Hid (Below w25.heap.size w25 wy27) := below_y (uh BR) hb
  clear BR hb; have BR := BR_; clear BR_; go_wp2_with fail
  refine hK.out _ _ (⟨(uh A).ups (uh BR), (uh B).ups (uh BR), (uh C).ups (uh BR), (uh E).ups (uh BR), (uh F).ups (uh BR), (uh I).ups (uh BR), (uh J).ups (uh BR), (uh Z).ups (uh BR), (uh L).ups (uh BR)⟩) (fun hHeld2 => ?_)
  clear hK K hHeld; have hHeld := hHeld2; clear hHeld2
  try simp only [Act.put, p1, p2, p3]
  refine takeVal 21 (some 145) ?_ rfl (by kernel_rfl) (by kernel_rfl) (by kernel_rfl) rfl (fun _ _ _ h => h) (by rfl) (by assumption) ?_ ?_; rotate_left; (intro w hSw; (try dsimp only at hSw); clear hSw; go_simp <;> with_reducible rfl); simp only [Act.put, p1, p2, p3]
  refine takeVal 22 (some 146) ?_ rfl (by kernel_rfl) (by kernel_rfl) (by kernel_rfl) rfl (fun _ _ _ h => h) (by rfl) (by assumption) ?_ ?_; rotate_left; (intro w hSw; (try dsimp only at hSw); clear hSw; go_simp <;> with_reducible rfl); simp only [Act.put, p1, p2, p3]
  refine takeVal 23 (some 147) ?_ rfl (by kernel_rfl) (by kernel_rfl) (by kernel_rfl) rfl (fun _ _ _ h => h) (by rfl) (by assumption) ?_ ?_; rotate_left; (intro w hSw; (try dsimp only at hSw); have hO := hSw.2.2.2.1; clear hSw; have c0 := hO.cell 0 rfl; have c1 := hO.cell 1 rfl; have c2 := hO.cell 2 rfl; have c3 := hO.cell 3 rfl; have c4 := hO.cell 4 rfl; have c5 := hO.cell 5 rfl; have c6 := hO.cell 6 rfl; clear hO; go_simp <;> with_reducible rfl); simp only [Act.put, p1, p2, p3]
  refine takeVal 24 (some 148) ?_ rfl (by kernel_rfl) (by kernel_rfl) (by kernel_rfl) rfl (fun _ _ _ h => h) (by rfl) (by assumption) ?_ ?_; rotate_left; (intro w hSw; (try dsimp only at hSw); have hO := hSw.2.2.2.2.1; clear hSw; have c0 := hO.cell 0 rfl; have c1 := hO.cell 1 rfl; have c2 := hO.cell 2 rfl; have c3 := hO.cell 3 rfl; have c4 := hO.cell 4 rfl; have c5 := hO.cell 5 rfl; have c6 := hO.cell 6 rfl; clear hO; go_simp <;> with_reducible rfl); simp only [Act.put, p1, p2, p3]
  refine wpAnyH_ready (rs := [25]) (by kernel_rfl) (by simp) ?_
  refine AllReadyH.cons rfl (fun K hK => ?_) AllReadyH.nil
  go_simp
  refine (sameBox_same ev _ _ _ _ _ _ _ (uh EL).1 (uh EL).2.1 ((uh OE).up (uh BR)) ((uh OF).up (uh BR))).mono ?_
  rintro e wy28 ⟨rfl, hb⟩
  have BR_ : Hid (Below w25.heap.size w25 wy28) := below_y (uh BR) hb
  clear BR hb; have BR := BR_; clear BR_; go_wp2_with fail
  refine hK.out _ _ (⟨(uh A).ups (uh BR), (uh B).ups (uh BR), (uh C).ups (uh BR), (uh E).ups (uh BR), (uh F).ups (uh BR), (uh I).ups (uh BR), (uh J).ups (uh BR), (uh Z).ups (uh BR), (uh L).ups (uh BR)⟩) (fun hHeld2 => ?_)
  clear hK K hHeld; have hHeld := hHeld2; clear hHeld2
  try simp only [Act.put, p1, p2, p3]
  refine takeVal 26 (some 150) ?_ rfl (by kernel_rfl) (by kernel_rfl) (by kernel_rfl) rfl (fun _ _ _ h => h) (by rfl) (by assumption) ?_ ?_; rotate_left; (intro w hSw; (try dsimp only at hSw); clear hSw; go_simp <;> with_reducible rfl); simp only [Act.put, p1, p2, p3]
  refine takeVal 27 (some 151) ?_ rfl (by kernel_rfl) (by kernel_rfl) (by kernel_rfl) rfl (fun _ _ _ h => h) (by rfl) (by assumption) ?_ ?_; rotate_left; (intro w hSw; (try dsimp only at hSw); clear hSw; go_simp <;> with_reducible rfl); simp only [Act.put, p1, p2, p3]
  refine takeVal 28 (some 152) ?_ rfl (by kernel_rfl) (by kernel_rfl) (by kernel_rfl) rfl (fun _ _ _ h => h) (by rfl) (by assumption) ?_ ?_; rotate_left; (intro w hSw; (try dsimp only at hSw); clear hSw; go_simp <;> with_reducible rfl); simp only [Act.put, p1, p2, p3]
  refine takeVal 29 (some 153) ?_ rfl (by kernel_rfl) (by kernel_rfl) (by kernel_rfl) rfl (fun _ _ _ h => h) (by rfl) (by assumption) ?_ ?_; rotate_left; (intro w hSw; (try dsimp only at hSw); clear hSw; go_simp <;> with_reducible rfl); simp only [Act.put, p1, p2, p3]
  refine wpAnyH_ready (rs := [30]) (by kernel_rfl) (by simp) ?_
  refine AllReadyH.cons rfl (fun K hK => ?_) AllReadyH.nil
  go_simp
  refine (sameSet_told fd _ _ _ _ _ (uh FL).2.2.1 ((uh RDn).up (uh BR)) ((uh RXx).up (uh BR))).mono ?_
  rintro e wy29 ⟨rfl, hb⟩
  have BR_ : Hid (Below w25.heap.size w25 wy29) := below_y (uh BR) hb
  clear BR hb; have BR := BR_; clear BR_; go_wp2_with fail
  refine hK.out _ _ (⟨(uh A).ups (uh BR), (uh B).ups (uh BR), (uh C).ups (uh BR), (uh E).ups (uh BR), (uh F).ups (uh BR), (uh I).ups (uh BR), (uh J).ups (uh BR), (uh Z).ups (uh BR), (uh L).ups (uh BR)⟩) (fun hHeld2 => ?_)
  clear hK K hHeld; have hHeld := hHeld2; clear hHeld2
  try simp only [Act.put, p1, p2, p3]
  refine takeVal 31 (some 155) ?_ rfl (by kernel_rfl) (by kernel_rfl) (by kernel_rfl) rfl (fun _ _ _ h => h) (by rfl) (by assumption) ?_ ?_; rotate_left; (intro w hSw; (try dsimp only at hSw); clear hSw; go_simp <;> with_reducible rfl); simp only [Act.put, p1, p2, p3]
  refine takeVal 32 (some 156) ?_ rfl (by kernel_rfl) (by kernel_rfl) (by kernel_rfl) rfl (fun _ _ _ h => h) (by rfl) (by assumption) ?_ ?_; rotate_left; (intro w hSw; (try dsimp only at hSw); clear hSw; go_simp <;> with_reducible rfl); simp only [Act.put, p1, p2, p3]
  refine takeVal 33 (some 157) ?_ rfl (by kernel_rfl) (by kernel_rfl) (by kernel_rfl) rfl (fun _ _ _ h => h) (by rfl) (by assumption) ?_ ?_; rotate_left; (intro w hSw; (try dsimp only at hSw); clear hSw; go_simp <;> with_reducible rfl); simp only [Act.put, p1, p2, p3]
  refine takeVal 34 (some 158) ?_ rfl (by kernel_rfl) (by kernel_rfl) (by kernel_rfl) rfl (fun _ _ _ h => h) (by rfl) (by assumption) ?_ ?_; rotate_left; (intro w hSw; (try dsimp only at hSw); clear hSw; go_simp <;> with_reducible rfl); simp only [Act.put, p1, p2, p3]
  refine wpAnyH_ready (rs := [35]) (by kernel_rfl) (by simp) ?_
  refine AllReadyH.cons rfl (fun K hK => ?_) AllReadyH.nil
  go_simp
  refine (sameSet_told fl _ _ _ _ _ (uh FL).2.2.2 ((uh RLt).up (uh BR)) ((uh RYy).up (uh BR))).mono ?_
  rintro e wy30 ⟨rfl, hb⟩
  have BR_ : Hid (Below w25.heap.size w25 wy30) := below_y (uh BR) hb
  clear BR hb; have BR := BR_; clear BR_; go_wp2_with fail
  refine hK.out _ _ (⟨(uh A).ups (uh BR), (uh B).ups (uh BR), (uh C).ups (uh BR), (uh E).ups (uh BR), (uh F).ups (uh BR), (uh I).ups (uh BR), (uh J).ups (uh BR), (uh Z).ups (uh BR), (uh L).ups (uh BR)⟩) (fun hHeld2 => ?_)
  clear hK K hHeld; have hHeld := hHeld2; clear hHeld2
  try simp only [Act.put, p1, p2, p3]
  refine takeVal 36 (some 160) ?_ rfl (by kernel_rfl) (by kernel_rfl) (by kernel_rfl) rfl (fun _ _ _ h => h) (by rfl) (by assumption) ?_ ?_; rotate_left; (intro w hSw; (try dsimp only at hSw); clear hSw; go_simp <;> with_reducible rfl); simp only [Act.put, p1, p2, p3]
  refine takeVal 37 (some 161) ?_ rfl (by kernel_rfl) (by kernel_rfl) (by kernel_rfl) rfl (fun _ _ _ h => h) (by rfl) (by assumption) ?_ ?_; rotate_left; (intro w hSw; (try dsimp only at hSw); clear hSw; go_simp <;> with_reducible rfl); simp only [Act.put, p1, p2, p3]
  refine takeVal 38 (some 162) ?_ rfl (by kernel_rfl) (by kernel_rfl) (by kernel_rfl) rfl (fun _ _ _ h => h) (by rfl) (by assumption) ?_ ?_; rotate_left; (intro w hSw; (try dsimp only at hSw); have hO := hSw.2.2.2.2.2.1; clear hSw; have c0 := hO.cell 0 rfl; have c1 := hO.cell 1 rfl; have c2 := hO.cell 2 rfl; have c3 := hO.cell 3 rfl; have c4 := hO.cell 4 rfl; have c5 := hO.cell 5 rfl; have c6 := hO.cell 6 rfl; clear hO; go_simp <;> with_reducible rfl); simp only [Act.put, p1, p2, p3]
  refine takeVal 39 (some 163) ?_ rfl (by kernel_rfl) (by kernel_rfl) (by kernel_rfl) rfl (fun _ _ _ h => h) (by rfl) (by assumption) ?_ ?_; rotate_left; (intro w hSw; (try dsimp only at hSw); have hO := hSw.2.2.2.2.2.2.1; clear hSw; have c0 := hO.cell 0 rfl; have c1 := hO.cell 1 rfl; have c2 := hO.cell 2 rfl; have c3 := hO.cell 3 rfl; have c4 := hO.cell 4 rfl; have c5 := hO.cell 5 rfl; have c6 := hO.cell 6 rfl; clear hO; go_simp <;> with_reducible rfl); simp only [Act.put, p1, p2, p3]
  refine wpAnyH_ready (rs := [40]) (by kernel_rfl) (by simp) ?_
  refine AllReadyH.cons rfl (fun K hK => ?_) AllReadyH.nil
  go_simp
  refine (sameBox_same fv _ _ _ _ _ _ _ (uh FL).1 (uh FL).2.1 ((uh OI).up (uh BR)) ((uh OJ).up (uh BR))).mono ?_
  rintro e wy31 ⟨rfl, hb⟩
  have BR_ : Hid (Below w25.heap.size w25 wy31) := below_y (uh BR) hb
  clear BR hb; have BR := BR_; clear BR_; go_wp2_with fail
  refine hK.out _ _ (⟨(uh A).ups (uh BR), (uh B).ups (uh BR), (uh C).ups (uh BR), (uh E).ups (uh BR), (uh F).ups (uh BR), (uh I).ups (uh BR), (uh J).ups (uh BR), (uh Z).ups (uh BR), (uh L).ups (uh BR)⟩) (fun hHeld2 => ?_)
  clear hK K hHeld; have hHeld := hHeld2; clear hHeld2
  try simp only [Act.put, p1, p2, p3]
  refine takeVal 41 (some 165) ?_ rfl (by kernel_rfl) (by kernel_rfl) (by kernel_rfl) rfl (fun _ _ _ h => h) (by rfl) (by assumption) ?_ ?_; rotate_left; (intro w hSw; (try dsimp only at hSw); clear hSw; go_simp <;> with_reducible rfl); simp only [Act.put, p1, p2, p3]
  refine takeVal 42 (some 166) ?_ rfl (by kernel_rfl) (by kernel_rfl) (by kernel_rfl) rfl (fun _ _ _ h => h) (by rfl) (by assumption) ?_ ?_; rotate_left; (intro w hSw; (try dsimp only at hSw); clear hSw; go_simp <;> with_reducible rfl); simp only [Act.put, p1, p2, p3]
  refine takeVal 43 (some 167) ?_ rfl (by kernel_rfl) (by kernel_rfl) (by kernel_rfl) rfl (fun _ _ _ h => h) (by rfl) (by assumption) ?_ ?_; rotate_left; (intro w hSw; (try dsimp only at hSw); have hO := hSw.2.2.2.2.2.2.2.1; clear hSw; have c0 := hO.cell 0 rfl; have c1 := hO.cell 1 rfl; have c2 := hO.cell 2 rfl; have c3 := hO.cell 3 rfl; have c4 := hO.cell 4 rfl; have c5 := hO.cell 5 rfl; have c6 := hO.cell 6 rfl; clear hO; go_simp <;> with_reducible rfl); simp only [Act.put, p1, p2, p3]
  refine takeVal 44 (some 168) ?_ rfl (by kernel_rfl) (by kernel_rfl) (by kernel_rfl) rfl (fun _ _ _ h => h) (by rfl) (by assumption) ?_ ?_; rotate_left; (intro w hSw; (try dsimp only at hSw); clear hSw; go_simp <;> with_reducible rfl); simp only [Act.put, p1, p2, p3]
  refine takeVal 46 (some 170) ?_ rfl (by kernel_rfl) (by kernel_rfl) (by kernel_rfl) rfl (fun _ _ _ h => h) (by rfl) (by assumption) ?_ ?_; rotate_left; (intro w hSw; (try dsimp only at hSw); have hO := hSw.2.2.2.2.2.2.2.1; clear hSw; have c0 := hO.cell 0 rfl; have c1 := hO.cell 1 rfl; have c2 := hO.cell 2 rfl; have c3 := hO.cell 3 rfl; have c4 := hO.cell 4 rfl; have c5 := hO.cell 5 rfl; have c6 := hO.cell 6 rfl; clear hO; go_simp <;> with_reducible rfl); simp only [Act.put, p1, p2, p3]
  refine takeVal 47 (some 171) ?_ rfl (by kernel_rfl) (by kernel_rfl) (by kernel_rfl) rfl (fun _ _ _ h => h) (by rfl) (by assumption) ?_ ?_; rotate_left; (intro w hSw; (try dsimp only at hSw); clear hSw; go_simp <;> with_reducible rfl); simp only [Act.put, p1, p2, p3]
  refine wpAnyH_ready (rs := [45]) (by kernel_rfl) (by simp) ?_
  refine AllReadyH.cons rfl (fun K hK => ?_) AllReadyH.nil
  go_simp
  refine (impl_ForgetTombs_any bZ _ _ _ upto _ (uh FTZ) ((uh OZ).up (uh BR))).mono ?_
  rintro e wy32 ⟨mU, tU, rfl, oU, hb⟩
  rw [uh GV] at oU ⊢
  obtain ⟨amU, cmU, rfl⟩ := g_shape oU.1
  obtain ⟨atU, ctU, rfl⟩ := g_shape oU.2
  have PU := hide oU; clear oU
  have BR_ : Hid (Below w25.heap.size w25 wy32) := below_y (uh BR) hb
  clear BR hb; have BR := BR_; clear BR_; go_wp2_with fail
  refine hK.out _ _ (⟨(uh A).ups (uh BR), (uh B).ups (uh BR), (uh C).ups (uh BR), (uh E).ups (uh BR), (uh F).ups (uh BR), (uh I).ups (uh BR), (uh J).ups (uh BR), (uh Z).ups (uh BR), (uh L).ups (uh BR)⟩) (fun hHeld2 => ?_)
  clear hK K hHeld; have hHeld := hHeld2; clear hHeld2
  try simp only [Act.put, p1, p2, p3]
  refine wpAnyH_ready (rs := [48]) (by kernel_rfl) (by simp) ?_
  refine AllReadyH.cons rfl (fun K hK => ?_) AllReadyH.nil
  go_simp
  refine (spec_ForgetTombs_any bZ _ _ _ upto _ (uh FTZ) ((uh OZ).up (uh BR))).mono ?_
  rintro e wy33 ⟨mV, tV, rfl, oV, hb⟩
  rw [uh GV] at oV ⊢
  obtain ⟨amV, cmV, rfl⟩ := g_shape oV.1
  obtain ⟨atV, ctV, rfl⟩ := g_shape oV.2
  have PV := hide oV; clear oV; have PU2 := hide ((uh PU).up hb)
  have BR_ : Hid (Below w25.heap.size w25 wy33) := below_y (uh BR) hb
  clear BR hb; have BR := BR_; clear BR_; go_wp2_with fail
  refine hK.out _ _ (⟨(uh A).ups (uh BR), (uh B).ups (uh BR), (uh C).ups (uh BR), (uh E).ups (uh BR), (uh F).ups (uh BR), (uh I).ups (uh BR), (uh J).ups (uh BR), (uh Z).ups (uh BR), (uh L).ups (uh BR)⟩) (fun hHeld2 => ?_)
  clear hK K hHeld; have hHeld := hHeld2; clear hHeld2
  try simp only [Act.put, p1, p2, p3]
  refine wpAnyH_ready (rs := [49]) (by kernel_rfl) (by simp) ?_
  refine AllReadyH.cons rfl (fun K hK => ?_) AllReadyH.nil
  go_simp
  refine (sameBox_same gv _ _ _ _ _ _ _ (uh GL).1 (uh GL).2 (uh PU2) (uh PV)).mono ?_
  rintro e wy34 ⟨rfl, hb⟩
  have BR_ : Hid (Below w25.heap.size w25 wy34) := below_y (uh BR) hb
  clear BR hb; have BR := BR_; clear BR_; go_wp2_with fail
  refine hK.out _ _ (⟨(uh A).ups (uh BR), (uh B).ups (uh BR), (uh C).ups (uh BR), (uh E).ups (uh BR), (uh F).ups (uh BR), (uh I).ups (uh BR), (uh J).ups (uh BR), (uh Z).ups (uh BR), (uh L).ups (uh BR)⟩) (fun hHeld2 => ?_)
  clear hK K hHeld; have hHeld := hHeld2; clear hHeld2
  try simp only [Act.put, p1, p2, p3]
  refine takeVal 50 (some 174) ?_ rfl (by kernel_rfl) (by kernel_rfl) (by kernel_rfl) rfl (fun _ _ _ h => h) (by rfl) (by assumption) ?_ ?_; rotate_left; (intro w hSw; (try dsimp only at hSw); clear hSw; go_simp <;> with_reducible rfl); simp only [Act.put, p1, p2, p3]
  refine takeVal 51 (some 175) ?_ rfl (by kernel_rfl) (by kernel_rfl) (by kernel_rfl) rfl (fun _ _ _ h => h) (by rfl) (by assumption) ?_ ?_; rotate_left; (intro w hSw; (try dsimp only at hSw); clear hSw; go_simp <;> with_reducible rfl); simp only [Act.put, p1, p2, p3]
  refine takeVal 52 (some 176) ?_ rfl (by kernel_rfl) (by kernel_rfl) (by kernel_rfl) rfl (fun _ _ _ h => h) (by rfl) (by assumption) ?_ ?_; rotate_left; (intro w hSw; (try dsimp only at hSw); clear hSw; go_simp <;> with_reducible rfl); simp only [Act.put, p1, p2, p3]
  refine takeVal 53 (some 177) ?_ rfl (by kernel_rfl) (by kernel_rfl) (by kernel_rfl) rfl (fun _ _ _ h => h) (by rfl) (by assumption) ?_ ?_; rotate_left; (intro w hSw; (try dsimp only at hSw); clear hSw; go_simp <;> with_reducible rfl); simp only [Act.put, p1, p2, p3]
  cases ok with
  | true =>
   refine takeVal 54 (some 178) ?_ rfl (by kernel_rfl) (by kernel_rfl) (by kernel_rfl) rfl (fun _ _ _ h => h) (by rfl) (by assumption) ?_ ?_; rotate_left; (intro w hSw; (try dsimp only at hSw); clear hSw; go_simp <;> with_reducible rfl); simp only [Act.put, p1, p2, p3]
   refine takeVal 55 (some 179) ?_ rfl (by kernel_rfl) (by kernel_rfl) (by kernel_rfl) rfl (fun _ _ _ h => h) (by rfl) (by assumption) ?_ ?_; rotate_left; (intro w hSw; (try dsimp only at hSw); clear hSw; go_simp <;> with_reducible rfl); simp only [Act.put, p1, p2, p3]
   refine takeVal 56 (some 180) ?_ rfl (by kernel_rfl) (by kernel_rfl) (by kernel_rfl) rfl (fun _ _ _ h => h) (by rfl) (by assumption) ?_ ?_; rotate_left; (intro w hSw; (try dsimp only at hSw); clear hSw; go_simp <;> with_reducible rfl); simp only [Act.put, p1, p2, p3]
   refine takeVal 57 (some 181) ?_ rfl (by kernel_rfl) (by kernel_rfl) (by kernel_rfl) rfl (fun _ _ _ h => h) (by rfl) (by assumption) ?_ ?_; rotate_left; (intro w hSw; (try dsimp only at hSw); clear hSw; go_simp <;> with_reducible rfl); simp only [Act.put, p1, p2, p3]
   refine takeVal 58 (some 182) ?_ rfl (by kernel_rfl) (by kernel_rfl) (by kernel_rfl) rfl (fun _ _ _ h => h) (by rfl) (by assumption) ?_ ?_; rotate_left; (intro w hSw; (try dsimp only at hSw); clear hSw; go_simp <;> with_reducible rfl); simp only [Act.put, p1, p2, p3]
   refine takeVal 59 (some 183) ?_ rfl (by kernel_rfl) (by kernel_rfl) (by kernel_rfl) rfl (fun _ _ _ h => h) (by rfl) (by assumption) ?_ ?_; rotate_left; (intro w hSw; (try dsimp only at hSw); clear hSw; go_simp <;> with_reducible rfl); simp only [Act.put, p1, p2, p3]
   refine takeVal 60 (some 184) ?_ rfl (by kernel_rfl) (by kernel_rfl) (by kernel_rfl) rfl (fun _ _ _ h => h) (by rfl) (by assumption) ?_ ?_; rotate_left; (intro w hSw; (try dsimp only at hSw); have hO := hSw.2.2.2.2.2.2.2.2; clear hSw; have c0 := hO.cell 0 rfl; have c1 := hO.cell 1 rfl; have c2 := hO.cell 2 rfl; have c3 := hO.cell 3 rfl; have c4 := hO.cell 4 rfl; have c5 := hO.cell 5 rfl; have c6 := hO.cell 6 rfl; clear hO; go_simp <;> with_reducible rfl); simp only [Act.put, p1, p2, p3]
   refine wpAnyH_ready (rs := [61]) (by kernel_rfl) (by simp) ?_
   refine AllReadyH.cons rfl (fun K hK => ?_) AllReadyH.nil
   go_simp
   refine (impl_BoxOk_any nv _ _ w.heap.size _ (fit_ok (uh NT rfl)) ⟨by rw [(uh NR).1]; exact World.ownsRow_nil _ _ _ _, by rw [(uh NR).2]; exact World.ownsRow_nil _ _ _ _⟩).mono ?_
   rintro e wyt35 ⟨rfl, hb⟩
   rw [uh NT rfl]
   have BR_ : Hid (Below w25.heap.size w25 wyt35) := below_y (uh BR) hb
   clear BR hb; have BR := BR_; clear BR_; go_wp2_with fail
   refine hK.out _ _ (⟨(uh A).ups (uh BR), (uh B).ups (uh BR), (uh C).ups (uh BR), (uh E).ups (uh BR), (uh F).ups (uh BR), (uh I).ups (uh BR), (uh J).ups (uh BR), (uh Z).ups (uh BR), (uh L).ups (uh BR)⟩) (fun hHeld2 => ?_)
   clear hK K hHeld; have hHeld := hHeld2; clear hHeld2
   try simp only [Act.put, p1, p2, p3]
   refine takeVal 62 (some 186) ?_ rfl (by kernel_rfl) (by kernel_rfl) (by kernel_rfl) rfl (fun _ _ _ h => h) (by rfl) (by assumption) ?_ ?_; rotate_left; (intro w hSw; (try dsimp only at hSw); clear hSw; go_simp <;> with_reducible rfl); simp only [Act.put, p1, p2, p3]
   refine takeVal 63 (some 187) ?_ rfl (by kernel_rfl) (by kernel_rfl) (by kernel_rfl) rfl (fun _ _ _ h => h) (by rfl) (by assumption) ?_ ?_; rotate_left; (intro w hSw; (try dsimp only at hSw); clear hSw; go_simp <;> with_reducible rfl); simp only [Act.put, p1, p2, p3]
   refine takeVal 64 (some 188) ?_ rfl (by kernel_rfl) (by kernel_rfl) (by kernel_rfl) rfl (fun _ _ _ h => h) (by rfl) (by assumption) ?_ ?_; rotate_left; (intro w hSw; (try dsimp only at hSw); clear hSw; go_simp <;> with_reducible rfl); simp only [Act.put, p1, p2, p3]
   refine takeVal 65 (some 189) ?_ rfl (by kernel_rfl) (by kernel_rfl) (by kernel_rfl) rfl (fun _ _ _ h => h) (by rfl) (by assumption) ?_ ?_; rotate_left; (intro w hSw; (try dsimp only at hSw); have hO := hSw.2.1; clear hSw; have c0 := hO.cell 0 rfl; have c1 := hO.cell 1 rfl; have c2 := hO.cell 2 rfl; have c3 := hO.cell 3 rfl; have c4 := hO.cell 4 rfl; have c5 := hO.cell 5 rfl; have c6 := hO.cell 6 rfl; clear hO; go_simp <;> with_reducible rfl); simp only [Act.put, p1, p2, p3]
   refine takeVal 67 (some 191) ?_ rfl (by kernel_rfl) (by kernel_rfl) (by kernel_rfl) rfl (fun _ _ _ h => h) (by rfl) (by assumption) ?_ ?_; rotate_left; (intro w hSw; (try dsimp only at hSw); have hO := hSw.2.1; clear hSw; have c0 := hO.cell 0 rfl; have c1 := hO.cell 1 rfl; have c2 := hO.cell 2 rfl; have c3 := hO.cell 3 rfl; have c4 := hO.cell 4 rfl; have c5 := hO.cell 5 rfl; have c6 := hO.cell 6 rfl; clear hO; go_simp <;> with_reducible rfl); simp only [Act.put, p1, p2, p3]
   refine wpAnyH_ready (rs := [66]) (by kernel_rfl) (by simp) ?_
   refine AllReadyH.cons rfl (fun K hK => ?_) AllReadyH.nil
   go_simp
   refine (impl_BoxOk_any bB _ _ _ _ (uh FTB) ((uh OB).up (uh BR))).mono ?_
   rintro e wyt36 ⟨rfl, hb⟩
   have BR_ : Hid (Below w25.heap.size w25 wyt36) := below_y (uh BR) hb
   clear BR hb; have BR := BR_; clear BR_; go_wp2_with fail
   refine hK.out _ _ (⟨(uh A).ups (uh BR), (uh B).ups (uh BR), (uh C).ups (uh BR), (uh E).ups (uh BR), (uh F).ups (uh BR), (uh I).ups (uh BR), (uh J).ups (uh BR), (uh Z).ups (uh BR), (uh L).ups (uh BR)⟩) (fun hHeld2 => ?_)
   clear hK K hHeld; have hHeld := hHeld2; clear hHeld2
   try simp only [Act.put, p1, p2, p3]
   refine wpAnyH_ready (rs := [68]) (by kernel_rfl) (by simp) ?_
   refine AllReadyH.cons rfl (fun K hK => ?_) AllReadyH.nil
   go_simp
   refine (spec_BoxOk_any bB _ _ _ _ (uh FTB) ((uh OB).up (uh BR))).mono ?_
   rintro e wyt37 ⟨rfl, hb⟩
   have BR_ : Hid (Below w25.heap.size w25 wyt37) := below_y (uh BR) hb
   clear BR hb; have BR := BR_; clear BR_; go_wp2_with fail
   refine hK.out _ _ (⟨(uh A).ups (uh BR), (uh B).ups (uh BR), (uh C).ups (uh BR), (uh E).ups (uh BR), (uh F).ups (uh BR), (uh I).ups (uh BR), (uh J).ups (uh BR), (uh Z).ups (uh BR), (uh L).ups (uh BR)⟩) (fun hHeld2 => ?_)
   clear hK K hHeld; have hHeld := hHeld2; clear hHeld2
   try simp only [Act.put, p1, p2, p3]
   refine takeVal 69 (some 193) ?_ rfl (by kernel_rfl) (by kernel_rfl) (by kernel_rfl) rfl (fun _ _ _ h => h) (by rfl) (by assumption) ?_ ?_; rotate_left; (intro w hSw; (try dsimp only at hSw); clear hSw; go_simp <;> with_reducible rfl); simp only [Act.put, p1, p2, p3]
   refine takeVal 70 (some 194) ?_ rfl (by kernel_rfl) (by kernel_rfl) (by kernel_rfl) rfl (fun _ _ _ h => h) (by rfl) (by assumption) ?_ ?_; rotate_left; (intro w hSw; (try dsimp only at hSw); clear hSw; go_simp <;> with_reducible rfl); simp only [Act.put, p1, p2, p3]
   refine takeVal 71 (some 2) ?_ rfl (by kernel_rfl) (by kernel_rfl) (by kernel_rfl) rfl (fun _ _ _ h => h) (by rfl) (by assumption) ?_ ?_; rotate_left; (intro w hSw; (try dsimp only at hSw); clear hSw; go_simp <;> with_reducible rfl); simp only [Act.put, p1, p2, p3]
   refine wpAnyH_done (by kernel_rfl) ?_ _
   go_wp2
   go_ret
   exact ⟨by simp, below_y (uh BB) (uh BR)⟩
  | false =>
   refine takeVal 54 (some 178) ?_ rfl (by kernel_rfl) (by kernel_rfl) (by kernel_rfl) rfl (fun _ _ _ h => h) (by rfl) (by assumption) ?_ ?_; rotate_left; (intro w hSw; (try dsimp only at hSw); clear hSw; go_simp <;> with_reducible rfl); simp only [Act.put, p1, p2, p3]
   refine takeVal 55 (some 179) ?_ rfl (by kernel_rfl) (by kernel_rfl) (by kernel_rfl) rfl (fun _ _ _ h => h) (by rfl) (by assumption) ?_ ?_; rotate_left; (intro w hSw; (try dsimp only at hSw); clear hSw; go_simp <;> with_reducible rfl); simp only [Act.put, p1, p2, p3]
   refine takeVal 56 (some 180) ?_ rfl (by kernel_rfl) (by kernel_rfl) (by kernel_rfl) rfl (fun _ _ _ h => h) (by rfl) (by assumption) ?_ ?_; rotate_left; (intro w hSw; (try dsimp only at hSw); clear hSw; go_simp <;> with_reducible rfl); simp only [Act.put, p1, p2, p3]
   refine takeVal 57 (some 181) ?_ rfl (by kernel_rfl) (by kernel_rfl) (by kernel_rfl) rfl (fun _ _ _ h => h) (by rfl) (by assumption) ?_ ?_; rotate_left; (intro w hSw; (try dsimp only at hSw); clear hSw; go_simp <;> with_reducible rfl); simp only [Act.put, p1, p2, p3]
   refine takeVal 58 (some 182) ?_ rfl (by kernel_rfl) (by kernel_rfl) (by kernel_rfl) rfl (fun _ _ _ h => h) (by rfl) (by assumption) ?_ ?_; rotate_left; (intro w hSw; (try dsimp only at hSw); clear hSw; go_simp <;> with_reducible rfl); simp only [Act.put, p1, p2, p3]
   refine takeVal 59 (some 183) ?_ rfl (by kernel_rfl) (by kernel_rfl) (by kernel_rfl) rfl (fun _ _ _ h => h) (by rfl) (by assumption) ?_ ?_; rotate_left; (intro w hSw; (try dsimp only at hSw); clear hSw; go_simp <;> with_reducible rfl); simp only [Act.put, p1, p2, p3]
   refine tk 60 184 ?_; refine tk 61 185 ?_
   refine takeVal 62 (some 186) ?_ rfl (by kernel_rfl) (by kernel_rfl) (by kernel_rfl) rfl (fun _ _ _ h => h) (by rfl) (by assumption) ?_ ?_; rotate_left; (intro w hSw; (try dsimp only at hSw); clear hSw; go_simp <;> with_reducible rfl); simp only [Act.put, p1, p2, p3]
   refine takeVal 63 (some 187) ?_ rfl (by kernel_rfl) (by kernel_rfl) (by kernel_rfl) rfl (fun _ _ _ h => h) (by rfl) (by assumption) ?_ ?_; rotate_left; (intro w hSw; (try dsimp only at hSw); clear hSw; go_simp <;> with_reducible rfl); simp only [Act.put, p1, p2, p3]
   refine takeVal 64 (some 188) ?_ rfl (by kernel_rfl) (by kernel_rfl) (by kernel_rfl) rfl (fun _ _ _ h => h) (by rfl) (by assumption) ?_ ?_; rotate_left; (intro w hSw; (try dsimp only at hSw); clear hSw; go_simp <;> with_reducible rfl); simp only [Act.put, p1, p2, p3]
   refine takeVal 65 (some 189) ?_ rfl (by kernel_rfl) (by kernel_rfl) (by kernel_rfl) rfl (fun _ _ _ h => h) (by rfl) (by assumption) ?_ ?_; rotate_left; (intro w hSw; (try dsimp only at hSw); have hO := hSw.2.1; clear hSw; have c0 := hO.cell 0 rfl; have c1 := hO.cell 1 rfl; have c2 := hO.cell 2 rfl; have c3 := hO.cell 3 rfl; have c4 := hO.cell 4 rfl; have c5 := hO.cell 5 rfl; have c6 := hO.cell 6 rfl; clear hO; go_simp <;> with_reducible rfl); simp only [Act.put, p1, p2, p3]
   refine takeVal 67 (some 191) ?_ rfl (by kernel_rfl) (by kernel_rfl) (by kernel_rfl) rfl (fun _ _ _ h => h) (by rfl) (by assumption) ?_ ?_; rotate_left; (intro w hSw; (try dsimp only at hSw); have hO := hSw.2.1; clear hSw; have c0 := hO.cell 0 rfl; have c1 := hO.cell 1 rfl; have c2 := hO.cell 2 rfl; have c3 := hO.cell 3 rfl; have c4 := hO.cell 4 rfl; have c5 := hO.cell 5 rfl; have c6 := hO.cell 6 rfl; clear hO; go_simp <;> with_reducible rfl); simp only [Act.put, p1, p2, p3]
   refine wpAnyH_ready (rs := [66]) (by kernel_rfl) (by simp) ?_
   refine AllReadyH.cons rfl (fun K hK => ?_) AllReadyH.nil
   go_simp
   refine (impl_BoxOk_any bB _ _ _ _ (uh FTB) ((uh OB).up (uh BR))).mono ?_
   rintro e wyf35 ⟨rfl, hb⟩
   have BR_ : Hid (Below w25.heap.size w25 wyf35) := below_y (uh BR) hb
   clear BR hb; have BR := BR_; clear BR_; go_wp2_with fail
   refine hK.out _ _ (⟨(uh A).ups (uh BR), (uh B).ups (uh BR), (uh C).ups (uh BR), (uh E).ups (uh BR), (uh F).ups (uh BR), (uh I).ups (uh BR), (uh J).ups (uh BR), (uh Z).ups (uh BR), (uh L).ups (uh BR)⟩) (fun hHeld2 => ?_)
   clear hK K hHeld; have hHeld := hHeld2; clear hHeld2
   try simp only [Act.put, p1, p2, p3]
   refine wpAnyH_ready (rs := [68]) (by kernel_rfl) (by simp) ?_
   refine AllReadyH.cons rfl (fun K hK => ?_) AllReadyH.nil
   go_simp
   refine (spec_BoxOk_any bB _ _ _ _ (uh FTB) ((uh OB).up (uh BR))).mono ?_
   rintro e wyf36 ⟨rfl, hb⟩
   have BR_ : Hid (Below w25.heap.size w25 wyf36) := below_y (uh BR) hb
   clear BR hb; have BR := BR_; clear BR_; go_wp2_with fail
   refine hK.out _ _ (⟨(uh A).ups (uh BR), (uh B).ups (uh BR), (uh C).ups (uh BR), (uh E).ups (uh BR), (uh F).ups (uh BR), (uh I).ups (uh BR), (uh J).ups (uh BR), (uh Z).ups (uh BR), (uh L).ups (uh BR)⟩) (fun hHeld2 => ?_)
   clear hK K hHeld; have hHeld := hHeld2; clear hHeld2
   try simp only [Act.put, p1, p2, p3]
   refine takeVal 69 (some 193) ?_ rfl (by kernel_rfl) (by kernel_rfl) (by kernel_rfl) rfl (fun _ _ _ h => h) (by rfl) (by assumption) ?_ ?_; rotate_left; (intro w hSw; (try dsimp only at hSw); clear hSw; go_simp <;> with_reducible rfl); simp only [Act.put, p1, p2, p3]
   refine takeVal 70 (some 194) ?_ rfl (by kernel_rfl) (by kernel_rfl) (by kernel_rfl) rfl (fun _ _ _ h => h) (by rfl) (by assumption) ?_ ?_; rotate_left; (intro w hSw; (try dsimp only at hSw); clear hSw; go_simp <;> with_reducible rfl); simp only [Act.put, p1, p2, p3]
   refine takeVal 71 (some 2) ?_ rfl (by kernel_rfl) (by kernel_rfl) (by kernel_rfl) rfl (fun _ _ _ h => h) (by rfl) (by assumption) ?_ ?_; rotate_left; (intro w hSw; (try dsimp only at hSw); clear hSw; go_simp <;> with_reducible rfl); simp only [Act.put, p1, p2, p3]
   refine wpAnyH_done (by kernel_rfl) ?_ _
   go_wp2
   go_ret
   exact ⟨by simp, below_y (uh BB) (uh BR)⟩
 ·have du : decide (0 < uid) = false := decide_eq_false hu
  have EB : Hid (av = bB) := uh AT (by omega)
  refine takeVal 10 (some 134) ?_ rfl (by kernel_rfl) (by kernel_rfl) (by kernel_rfl) rfl (fun _ _ _ h => h) (by rfl) (by assumption) ?_ ?_; rotate_left; (intro w hSw; (try dsimp only at hSw); clear hSw; go_simp <;> with_reducible rfl); simp only [Act.put, p1, p2, p3]
  refine takeVal 11 (some 135) ?_ rfl (by kernel_rfl) (by kernel_rfl) (by kernel_rfl) rfl (fun _ _ _ h => h) (by rfl) (by assumption) ?_ ?_; rotate_left; (intro w hSw; (try dsimp only at hSw); clear hSw; go_simp <;> with_reducible rfl); simp only [Act.put, p1, p2, p3]
  clear du
  refine takeVal 12 (some 136) ?_ rfl (by kernel_rfl) (by kernel_rfl) (by kernel_rfl) rfl (fun _ _ _ h => h) (by rfl) (by assumption) ?_ ?_; rotate_left; (intro w hSw; (try dsimp only at hSw); have hO := hSw.1; clear hSw; have c0 := hO.cell 0 rfl; have c1 := hO.cell 1 rfl; have c2 := hO.cell 2 rfl; have c3 := hO.cell 3 rfl; have c4 := hO.cell 4 rfl; have c5 := hO.cell 5 rfl; have c6 := hO.cell 6 rfl; clear hO; go_simp <;> with_reducible rfl); simp only [Act.put, p1, p2, p3]
  refine takeVal 13 (some 137) ?_ rfl (by kernel_rfl) (by kernel_rfl) (by kernel_rfl) rfl (fun _ _ _ h => h) (by rfl) (by assumption) ?_ ?_; rotate_left; (intro w hSw; (try dsimp only at hSw); have hO := hSw.2.1; clear hSw; have c0 := hO.cell 0 rfl; have c1 := hO.cell 1 rfl; have c2 := hO.cell 2 rfl; have c3 := hO.cell 3 rfl; have c4 := hO.cell 4 rfl; have c5 := hO.cell 5 rfl; have c6 := hO.cell 6 rfl; clear hO; go_simp <;> with_reducible rfl); simp only [Act.put, p1, p2, p3]
  refine wpAnyH_ready (rs := [14]) (by kernel_rfl) (by simp) ?_
  refine AllReadyH.cons rfl (fun K hK => ?_) AllReadyH.nil
  go_simp
  refine (sameBox_eq av bB (uh EB) _ _ _ _ _ _ _ l1B l2B ((uh OA).up (uh BR)) ((uh OB).up (uh BR))).mono ?_
  rintro e wn27 ⟨rfl, hb⟩
  have BR_ : Hid (Below w25.heap.size w25 wn27) := below_y (uh BR) hb
  clear BR hb; have BR := BR_; clear BR_; go_wp2_with fail
  refine hK.out _ _ (⟨(uh A).ups (uh BR), (uh B).ups (uh BR), (uh C).ups (uh BR), (uh E).ups (uh BR), (uh F).ups (uh BR), (uh I).ups (uh BR), (uh J).ups (uh BR), (uh Z).ups (uh BR), (uh L).ups (uh BR)⟩) (fun hHeld2 => ?_)
  clear hK K hHeld; have hHeld := hHeld2; clear hHeld2
  try simp only [Act.put, p1, p2, p3]
  refine takeVal 15 (some 139) ?_ rfl (by kernel_rfl) (by kernel_rfl) (by kernel_rfl) rfl (fun _ _ _ h => h) (by rfl) (by assumption) ?_ ?_; rotate_left; (intro w hSw; (try dsimp only at hSw); clear hSw; go_simp <;> with_reducible rfl); simp only [Act.put, p1, p2, p3]
  refine takeVal 16 (some 140) ?_ rfl (by kernel_rfl) (by kernel_rfl) (by kernel_rfl) rfl (fun _ _ _ h => h) (by rfl) (by assumption) ?_ ?_; rotate_left; (intro w hSw; (try dsimp only at hSw); clear hSw; go_simp <;> with_reducible rfl); simp only [Act.put, p1, p2, p3]
  refine takeVal 17 (some 141) ?_ rfl (by kernel_rfl) (by kernel_rfl) (by kernel_rfl) rfl (fun _ _ _ h => h) (by rfl) (by assumption) ?_ ?_; rotate_left; (intro w hSw; (try dsimp only at hSw); clear hSw; go_simp <;> with_reducible rfl); simp only [Act.put, p1, p2, p3]
  refine takeVal 18 (some 142) ?_ rfl (by kernel_rfl) (by kernel_rfl) (by kernel_rfl) rfl (fun _ _ _ h => h) (by rfl) (by assumption) ?_ ?_; rotate_left; (intro w hSw; (try dsimp only at hSw); clear hSw; go_simp <;> with_reducible rfl); simp only [Act.put, p1, p2, p3]
  refine takeVal 19 (some 143) ?_ rfl (by kernel_rfl) (by kernel_rfl) (by kernel_rfl) rfl (fun _ _ _ h => h) (by rfl) (by assumption) ?_ ?_; rotate_left; (intro w hSw; (try dsimp only at hSw); clear hSw; go_simp <;> with_reducible rfl); simp only [Act.put, p1, p2, p3]
  refine wpAnyH_ready (rs := [20]) (by kernel_rfl) (by simp) ?_
  refine AllReadyH.cons rfl (fun K hK => ?_) AllReadyH.nil
  go_simp
  refine (sameSet_told es _ _ _ _ _ (uh EL).2.2 ((uh RG).up (uh BR)) ((uh RM).up (uh BR))).mono ?_
  rintro e wn28 ⟨rfl, hb⟩
  have BR_ : Hid (Below w25.heap.size w25 wn28) := below_y (uh BR) hb
  clear BR hb; have BR := BR_; clear BR_; go_wp2_with fail
  refine hK.out _ _ (⟨(uh A).ups (uh BR), (uh B).ups (uh BR), (uh C).ups (uh BR), (uh E).ups (uh BR), (uh F).ups (uh BR), (uh I).ups (uh BR), (uh J).ups (uh BR), (uh Z).ups (uh BR), (uh L).ups (uh BR)⟩) (fun hHeld2 => ?_)
  clear hK K hHeld; have hHeld := hHeld2; clear hHeld2
  try simp only [Act.put, p1, p2, p3]
  refine takeVal 21 (some 145) ?_ rfl (by kernel_rfl) (by kernel_rfl) (by kernel_rfl) rfl (fun _ _ _ h => h) (by rfl) (by assumption) ?_ ?_; rotate_left; (intro w hSw; (try dsimp only at hSw); clear hSw; go_simp <;> with_reducible rfl); simp only [Act.put, p1, p2, p3]
  refine takeVal 22 (some 146) ?_ rfl (by kernel_rfl) (by kernel_rfl) (by kernel_rfl) rfl (fun _ _ _ h => h) (by rfl) (by assumption) ?_ ?_; rotate_left; (intro w hSw; (try dsimp only at hSw); clear hSw; go_simp <;> with_reducible rfl); simp only [Act.put, p1, p2, p3]
  refine takeVal 23 (some 147) ?_ rfl (by kernel_rfl) (by kernel_rfl) (by kernel_rfl) rfl (fun _ _ _ h => h) (by rfl) (by assumption) ?_ ?_; rotate_left; (intro w hSw; (try dsimp only at hSw); have hO := hSw.2.2.2.1; clear hSw; have c0 := hO.cell 0 rfl; have c1 := hO.cell 1 rfl; have c2 := hO.cell 2 rfl; have c3 := hO.cell 3 rfl; have c4 := hO.cell 4 rfl; have c5 := hO.cell 5 rfl; have c6 := hO.cell 6 rfl; clear hO; go_simp <;> with_reducible rfl); simp only [Act.put, p1, p2, p3]
  refine takeVal 24 (some 148) ?_ rfl (by kernel_rfl) (by kernel_rfl) (by kernel_rfl) rfl (fun _ _ _ h => h) (by rfl) (by assumption) ?_ ?_; rotate_left; (intro w hSw; (try dsimp only at hSw); have hO := hSw.2.2.2.2.1; clear hSw; have c0 := hO.cell 0 rfl; have c1 := hO.cell 1 rfl; have c2 := hO.cell 2 rfl; have c3 := hO.cell 3 rfl; have c4 := hO.cell 4 rfl; have c5 := hO.cell 5 rfl; have c6 := hO.cell 6 rfl; clear hO; go_simp <;> with_reducible rfl); simp only [Act.put, p1, p2, p3]
  refine wpAnyH_ready (rs := [25]) (by kernel_rfl) (by simp) ?_
  refine AllReadyH.cons rfl (fun K hK => ?_) AllReadyH.nil
  go_simp
  refine (sameBox_same ev _ _ _ _ _ _ _ (uh EL).1 (uh EL).2.1 ((uh OE).up (uh BR)) ((uh OF).up (uh BR))).mono ?_
  rintro e wn29 ⟨rfl, hb⟩
  have BR_ : Hid (Below w25.heap.size w25 wn29) := below_y (uh BR) hb
  clear BR hb; have BR := BR_; clear BR_; go_wp2_with fail
  refine hK.out _ _ (⟨(uh A).ups (uh BR), (uh B).ups (uh BR), (uh C).ups (uh BR), (uh E).ups (uh BR), (uh F).ups (uh BR), (uh I).ups (uh BR), (uh J).ups (uh BR), (uh Z).ups (uh BR), (uh L).ups (uh BR)⟩) (fun hHeld2 => ?_)
  clear hK K hHeld; have hHeld := hHeld2; clear hHeld2
  try simp only [Act.put, p1, p2, p3]
  refine takeVal 26 (some 150) ?_ rfl (by kernel_rfl) (by kernel_rfl) (by kernel_rfl) rfl (fun _ _ _ h => h) (by rfl) (by assumption) ?_ ?_; rotate_left; (intro w hSw; (try dsimp only at hSw); clear hSw; go_simp <;> with_reducible rfl); simp only [Act.put, p1, p2, p3]
  refine takeVal 27 (some 151) ?_ rfl (by kernel_rfl) (by kernel_rfl) (by kernel_rfl) rfl (fun _ _ _ h => h) (by rfl) (by assumption) ?_ ?_; rotate_left; (intro w hSw; (try dsimp only at hSw); clear hSw; go_simp <;> with_reducible rfl); simp only [Act.put, p1, p2, p3]
  refine takeVal 28 (some 152) ?_ rfl (by kernel_rfl) (by kernel_rfl) (by kernel_rfl) rfl (fun _ _ _ h => h) (by rfl) (by assumption) ?_ ?_; rotate_left; (intro w hSw; (try dsimp only at hSw); clear hSw; go_simp <;> with_reducible rfl); simp only [Act.put, p1, p2, p3]
  refine takeVal 29 (some 153) ?_ rfl (by kernel_rfl) (by kernel_rfl) (by kernel_rfl) rfl (fun _ _ _ h => h) (by rfl) (by assumption) ?_ ?_; rotate_left; (intro w hSw; (try dsimp only at hSw); clear hSw; go_simp <;> with_reducible rfl); simp only [Act.put, p1, p2, p3]
  refine wpAnyH_ready (rs := [30]) (by kernel_rfl) (by simp) ?_
  refine AllReadyH.cons rfl (fun K hK => ?_) AllReadyH.nil
  go_simp
  refine (sameSet_told fd _ _ _ _ _ (uh FL).2.2.1 ((uh RDn).up (uh BR)) ((uh RXx).up (uh BR))).mono ?_
  rintro e wn30 ⟨rfl, hb⟩
  have BR_ : Hid (Below w25.heap.size w25 wn30) := below_y (uh BR) hb
  clear BR hb; have BR := BR_; clear BR_; go_wp2_with fail
  refine hK.out _ _ (⟨(uh A).ups (uh BR), (uh B).ups (uh BR), (uh C).ups (uh BR), (uh E).ups (uh BR), (uh F).ups (uh BR), (uh I).ups (uh BR), (uh J).ups (uh BR), (uh Z).ups (uh BR), (uh L).ups (uh BR)⟩) (fun hHeld2 => ?_)
  clear hK K hHeld; have hHeld := hHeld2; clear hHeld2
  try simp only [Act.put, p1, p2, p3]
  refine takeVal 31 (some 155) ?_ rfl (by kernel_rfl) (by kernel_rfl) (by kernel_rfl) rfl (fun _ _ _ h => h) (by rfl) (by assumption) ?_ ?_; rotate_left; (intro w hSw; (try dsimp only at hSw); clear hSw; go_simp <;> with_reducible rfl); simp only [Act.put, p1, p2, p3]
  refine takeVal 32 (some 156) ?_ rfl (by kernel_rfl) (by kernel_rfl) (by kernel_rfl) rfl (fun _ _ _ h => h) (by rfl) (by assumption) ?_ ?_; rotate_left; (intro w hSw; (try dsimp only at hSw); clear hSw; go_simp <;> with_reducible rfl); simp only [Act.put, p1, p2, p3]
  refine takeVal 33 (some 157) ?_ rfl (by kernel_rfl) (by kernel_rfl) (by kernel_rfl) rfl (fun _ _ _ h => h) (by rfl) (by assumption) ?_ ?_; rotate_left; (intro w hSw; (try dsimp only at hSw); clear hSw; go_simp <;> with_reducible rfl); simp only [Act.put, p1, p2, p3]
  refine takeVal 34 (some 158) ?_ rfl (by kernel_rfl) (by kernel_rfl) (by kernel_rfl) rfl (fun _ _ _ h => h) (by rfl) (by assumption) ?_ ?_; rotate_left; (intro w hSw; (try dsimp only at hSw); clear hSw; go_simp <;> with_reducible rfl); simp only [Act.put, p1, p2, p3]
  refine wpAnyH_ready (rs := [35]) (by kernel_rfl) (by simp) ?_
  refine AllReadyH.cons rfl (fun K hK => ?_) AllReadyH.nil
  go_simp
  refine (sameSet_told fl _ _ _ _ _ (uh FL).2.2.2 ((uh RLt).up (uh BR)) ((uh RYy).up (uh BR))).mono ?_
  rintro e wn31 ⟨rfl, hb⟩
  have BR_ : Hid (Below w25.heap.size w25 wn31) := below_y (uh BR) hb
  clear BR hb; have BR := BR_; clear BR_; go_wp2_with fail
  refine hK.out _ _ (⟨(uh A).ups (uh BR), (uh B).ups (uh BR), (uh C).ups (uh BR), (uh E).ups (uh BR), (uh F).ups (uh BR), (uh I).ups (uh BR), (uh J).ups (uh BR), (uh Z).ups (uh BR), (uh L).ups (uh BR)⟩) (fun hHeld2 => ?_)
  clear hK K hHeld; have hHeld := hHeld2; clear hHeld2
  try simp only [Act.put, p1, p2, p3]
  refine takeVal 36 (some 160) ?_ rfl (by kernel_rfl) (by kernel_rfl) (by kernel_rfl) rfl (fun _ _ _ h => h) (by rfl) (by assumption) ?_ ?_; rotate_left; (intro w hSw; (try dsimp only at hSw); clear hSw; go_simp <;> with_reducible rfl); simp only [Act.put, p1, p2, p3]
  refine takeVal 37 (some 161) ?_ rfl (by kernel_rfl) (by kernel_rfl) (by kernel_rfl) rfl (fun _ _ _ h => h) (by rfl) (by assumption) ?_ ?_; rotate_left; (intro w hSw; (try dsimp only at hSw); clear hSw; go_simp <;> with_reducible rfl); simp only [Act.put, p1, p2, p3]
  refine takeVal 38 (some 162) ?_ rfl (by kernel_rfl) (by kernel_rfl) (by kernel_rfl) rfl (fun _ _ _ h => h) (by rfl) (by assumption) ?_ ?_; rotate_left; (intro w hSw; (try dsimp only at hSw); have hO := hSw.2.2.2.2.2.1; clear hSw; have c0 := hO.cell 0 rfl; have c1 := hO.cell 1 rfl; have c2 := hO.cell 2 rfl; have c3 := hO.cell 3 rfl; have c4 := hO.cell 4 rfl; have c5 := hO.cell 5 rfl; have c6 := hO.cell 6 rfl; clear hO; go_simp <;> with_reducible rfl); simp only [Act.put, p1, p2, p3]
  refine takeVal 39 (some 163) ?_ rfl (by kernel_rfl) (by kernel_rfl) (by kernel_rfl) rfl (fun _ _ _ h => h) (by rfl) (by assumption) ?_ ?_; rotate_left; (intro w hSw; (try dsimp only at hSw); have hO := hSw.2.2.2.2.2.2.1; clear hSw; have c0 := hO.cell 0 rfl; have c1 := hO.cell 1 rfl; have c2 := hO.cell 2 rfl; have c3 := hO.cell 3 rfl; have c4 := hO.cell 4 rfl; have c5 := hO.cell 5 rfl; have c6 := hO.cell 6 rfl; clear hO; go_simp <;> with_reducible rfl); simp only [Act.put, p1, p2, p3]
  refine wpAnyH_ready (rs := [40]) (by kernel_rfl) (by simp) ?_
  refine AllReadyH.cons rfl (fun K hK => ?_) AllReadyH.nil
  go_simp
  refine (sameBox_same fv _ _ _ _ _ _ _ (uh FL).1 (uh FL).2.1 ((uh OI).up (uh BR)) ((uh OJ).up (uh BR))).mono ?_
  rintro e wn32 ⟨rfl, hb⟩
  have BR_ : Hid (Below w25.heap.size w25 wn32) := below_y (uh BR) hb
  clear BR hb; have BR := BR_; clear BR_; go_wp2_with fail
  refine hK.out _ _ (⟨(uh A).ups (uh BR), (uh B).ups (uh BR), (uh C).ups (uh BR), (uh E).ups (uh BR), (uh F).ups (uh BR), (uh I).ups (uh BR), (uh J).ups (uh BR), (uh Z).ups (uh BR), (uh L).ups (uh BR)⟩) (fun hHeld2 => ?_)
  clear hK K hHeld; have hHeld := hHeld2; clear hHeld2
  try simp only [Act.put, p1, p2, p3]
  refine takeVal 41 (some 165) ?_ rfl (by kernel_rfl) (by kernel_rfl) (by kernel_rfl) rfl (fun _ _ _ h => h) (by rfl) (by assumption) ?_ ?_; rotate_left; (intro w hSw; (try dsimp only at hSw); clear hSw; go_simp <;> with_reducible rfl); simp only [Act.put, p1, p2, p3]
  refine takeVal 42 (some 166) ?_ rfl (by kernel_rfl) (by kernel_rfl) (by kernel_rfl) rfl (fun _ _ _ h => h) (by rfl) (by assumption) ?_ ?_; rotate_left; (intro w hSw; (try dsimp only at hSw); clear hSw; go_simp <;> with_reducible rfl); simp only [Act.put, p1, p2, p3]
  refine takeVal 43 (some 167) ?_ rfl (by kernel_rfl) (by kernel_rfl) (by kernel_rfl) rfl (fun _ _ _ h => h) (by rfl) (by assumption) ?_ ?_; rotate_left; (intro w hSw; (try dsimp only at hSw); have hO := hSw.2.2.2.2.2.2.2.1; clear hSw; have c0 := hO.cell 0 rfl; have c1 := hO.cell 1 rfl; have c2 := hO.cell 2 rfl; have c3 := hO.cell 3 rfl; have c4 := hO.cell 4 rfl; have c5 := hO.cell 5 rfl; have c6 := hO.cell 6 rfl; clear hO; go_simp <;> with_reducible rfl); simp only [Act.put, p1, p2, p3]
  refine takeVal 44 (some 168) ?_ rfl (by kernel_rfl) (by kernel_rfl) (by kernel_rfl) rfl (fun _ _ _ h => h) (by rfl) (by assumption) ?_ ?_; rotate_left; (intro w hSw; (try dsimp only at hSw); clear hSw; go_simp <;> with_reducible rfl); simp only [Act.put, p1, p2, p3]
  refine takeVal 46 (some 170) ?_ rfl (by kernel_rfl) (by kernel_rfl) (by kernel_rfl) rfl (fun _ _ _ h => h) (by rfl) (by assumption) ?_ ?_; rotate_left; (intro w hSw; (try dsimp only at hSw); have hO := hSw.2.2.2.2.2.2.2.1; clear hSw; have c0 := hO.cell 0 rfl; have c1 := hO.cell 1 rfl; have c2 := hO.cell 2 rfl; have c3 := hO.cell 3 rfl; have c4 := hO.cell 4 rfl; have c5 := hO.cell 5 rfl; have c6 := hO.cell 6 rfl; clear hO; go_simp <;> with_reducible rfl); simp only [Act.put, p1, p2, p3]
  refine takeVal 47 (some 171) ?_ rfl (by kernel_rfl) (by kernel_rfl) (by kernel_rfl) rfl (fun _ _ _ h => h) (by rfl) (by assumption) ?_ ?_; rotate_left; (intro w hSw; (try dsimp only at hSw); clear hSw; go_simp <;> with_reducible rfl); simp only [Act.put, p1, p2, p3]
  refine wpAnyH_ready (rs := [45]) (by kernel_rfl) (by simp) ?_
  refine AllReadyH.cons rfl (fun K hK => ?_) AllReadyH.nil
  go_simp
  refine (impl_ForgetTombs_any bZ _ _ _ upto _ (uh FTZ) ((uh OZ).up (uh BR))).mono ?_
  rintro e wn33 ⟨mU, tU, rfl, oU, hb⟩
  rw [uh GV] at oU ⊢
  obtain ⟨amU, cmU, rfl⟩ := g_shape oU.1
  obtain ⟨atU, ctU, rfl⟩ := g_shape oU.2
  have PU := hide oU; clear oU
  have BR_ : Hid (Below w25.heap.size w25 wn33) := below_y (uh BR) hb
  clear BR hb; have BR := BR_; clear BR_; go_wp2_with fail
  refine hK.out _ _ (⟨(uh A).ups (uh BR), (uh B).ups (uh BR), (uh C).ups (uh BR), (uh E).ups (uh BR), (uh F).ups (uh BR), (uh I).ups (uh BR), (uh J).ups (uh BR), (uh Z).ups (uh BR), (uh L).ups (uh BR)⟩) (fun hHeld2 => ?_)
  clear hK K hHeld; have hHeld := hHeld2; clear hHeld2
  try simp only [Act.put, p1, p2, p3]
  refine wpAnyH_ready (rs := [48]) (by kernel_rfl) (by simp) ?_
  refine AllReadyH.cons rfl (fun K hK => ?_) AllReadyH.nil
  go_simp
  refine (spec_ForgetTombs_any bZ _ _ _ upto _ (uh FTZ) ((uh OZ).up (uh BR))).mono ?_
  rintro e wn34 ⟨mV, tV, rfl, oV, hb⟩
  rw [uh GV] at oV ⊢
  obtain ⟨amV, cmV, rfl⟩ := g_shape oV.1
  obtain ⟨atV, ctV, rfl⟩ := g_shape oV.2
  have PV := hide oV; clear oV; have PU2 := hide ((uh PU).up hb)
  have BR_ : Hid (Below w25.heap.size w25 wn34) := below_y (uh BR) hb
  clear BR hb; have BR := BR_; clear BR_; go_wp2_with fail
  refine hK.out _ _ (⟨(uh A).ups (uh BR), (uh B).ups (uh BR), (uh C).ups (uh BR), (uh E).ups (uh BR), (uh F).ups (uh BR), (uh I).ups (uh BR), (uh J).ups (uh BR), (uh Z).ups (uh BR), (uh L).ups (uh BR)⟩) (fun hHeld2 => ?_)
  clear hK K hHeld; have hHeld := hHeld2; clear hHeld2
  try simp only [Act.put, p1, p2, p3]
  refine wpAnyH_ready (rs := [49]) (by kernel_rfl) (by simp) ?_
  refine AllReadyH.cons rfl (fun K hK => ?_) AllReadyH.nil
  go_simp
  refine (sameBox_same gv _ _ _ _ _ _ _ (uh GL).1 (uh GL).2 (uh PU2) (uh PV)).mono ?_
  rintro e wn35 ⟨rfl, hb⟩
  have BR_ : Hid (Below w25.heap.size w25 wn35) := below_y (uh BR) hb
  clear BR hb; have BR := BR_; clear BR_; go_wp2_with fail
  refine hK.out _ _ (⟨(uh A).ups (uh BR), (uh B).ups (uh BR), (uh C).ups (uh BR), (uh E).ups (uh BR), (uh F).ups (uh BR), (uh I).ups (uh BR), (uh J).ups (uh BR), (uh Z).ups (uh BR), (uh L).ups (uh BR)⟩) (fun hHeld2 => ?_)
  clear hK K hHeld; have hHeld := hHeld2; clear hHeld2
  try simp only [Act.put, p1, p2, p3]
  refine takeVal 50 (some 174) ?_ rfl (by kernel_rfl) (by kernel_rfl) (by kernel_rfl) rfl (fun _ _ _ h => h) (by rfl) (by assumption) ?_ ?_; rotate_left; (intro w hSw; (try dsimp only at hSw); clear hSw; go_simp <;> with_reducible rfl); simp only [Act.put, p1, p2, p3]
  refine takeVal 51 (some 175) ?_ rfl (by kernel_rfl) (by kernel_rfl) (by kernel_rfl) rfl (fun _ _ _ h => h) (by rfl) (by assumption) ?_ ?_; rotate_left; (intro w hSw; (try dsimp only at hSw); clear hSw; go_simp <;> with_reducible rfl); simp only [Act.put, p1, p2, p3]
  refine takeVal 52 (some 176) ?_ rfl (by kernel_rfl) (by kernel_rfl) (by kernel_rfl) rfl (fun _ _ _ h => h) (by rfl) (by assumption) ?_ ?_; rotate_left; (intro w hSw; (try dsimp only at hSw); clear hSw; go_simp <;> with_reducible rfl); simp only [Act.put, p1, p2, p3]
  refine takeVal 53 (some 177) ?_ rfl (by kernel_rfl) (by kernel_rfl) (by kernel_rfl) rfl (fun _ _ _ h => h) (by rfl) (by assumption) ?_ ?_; rotate_left; (intro w hSw; (try dsimp only at hSw); clear hSw; go_simp <;> with_reducible rfl); simp only [Act.put, p1, p2, p3]
  cases ok with
  | true =>
   refine takeVal 54 (some 178) ?_ rfl (by kernel_rfl) (by kernel_rfl) (by kernel_rfl) rfl (fun _ _ _ h => h) (by rfl) (by assumption) ?_ ?_; rotate_left; (intro w hSw; (try dsimp only at hSw); clear hSw; go_simp <;> with_reducible rfl); simp only [Act.put, p1, p2, p3]
   refine takeVal 55 (some 179) ?_ rfl (by kernel_rfl) (by kernel_rfl) (by kernel_rfl) rfl (fun _ _ _ h => h) (by rfl) (by assumption) ?_ ?_; rotate_left; (intro w hSw; (try dsimp only at hSw); clear hSw; go_simp <;> with_reducible rfl); simp only [Act.put, p1, p2, p3]
   refine takeVal 56 (some 180) ?_ rfl (by kernel_rfl) (by kernel_rfl) (by kernel_rfl) rfl (fun _ _ _ h => h) (by rfl) (by assumption) ?_ ?_; rotate_left; (intro w hSw; (try dsimp only at hSw); clear hSw; go_simp <;> with_reducible rfl); simp only [Act.put, p1, p2, p3]
   refine takeVal 57 (some 181) ?_ rfl (by kernel_rfl) (by kernel_rfl) (by kernel_rfl) rfl (fun _ _ _ h => h) (by rfl) (by assumption) ?_ ?_; rotate_left; (intro w hSw; (try dsimp only at hSw); clear hSw; go_simp <;> with_reducible rfl); simp only [Act.put, p1, p2, p3]
   refine takeVal 58 (some 182) ?_ rfl (by kernel_rfl) (by kernel_rfl) (by kernel_rfl) rfl (fun _ _ _ h => h) (by rfl) (by assumption) ?_ ?_; rotate_left; (intro w hSw; (try dsimp only at hSw); clear hSw; go_simp <;> with_reducible rfl); simp only [Act.put, p1, p2, p3]
   refine takeVal 59 (some 183) ?_ rfl (by kernel_rfl) (by kernel_rfl) (by kernel_rfl) rfl (fun _ _ _ h => h) (by rfl) (by assumption) ?_ ?_; rotate_left; (intro w hSw; (try dsimp only at hSw); clear hSw; go_simp <;> with_reducible rfl); simp only [Act.put, p1, p2, p3]
   refine takeVal 60 (some 184) ?_ rfl (by kernel_rfl) (by kernel_rfl) (by kernel_rfl) rfl (fun _ _ _ h => h) (by rfl) (by assumption) ?_ ?_; rotate_left; (intro w hSw; (try dsimp only at hSw); have hO := hSw.2.2.2.2.2.2.2.2; clear hSw; have c0 := hO.cell 0 rfl; have c1 := hO.cell 1 rfl; have c2 := hO.cell 2 rfl; have c3 := hO.cell 3 rfl; have c4 := hO.cell 4 rfl; have c5 := hO.cell 5 rfl; have c6 := hO.cell 6 rfl; clear hO; go_simp <;> with_reducible rfl); simp only [Act.put, p1, p2, p3]
   refine wpAnyH_ready (rs := [61]) (by kernel_rfl) (by simp) ?_
   refine AllReadyH.cons rfl (fun K hK => ?_) AllReadyH.nil
   go_simp
   refine (impl_BoxOk_any nv _ _ w.heap.size _ (fit_ok (uh NT rfl)) ⟨by rw [(uh NR).1]; exact World.ownsRow_nil _ _ _ _, by rw [(uh NR).2]; exact World.ownsRow_nil _ _ _ _⟩).mono ?_
   rintro e wnt36 ⟨rfl, hb⟩
   rw [uh NT rfl]
   have BR_ : Hid (Below w25.heap.size w25 wnt36) := below_y (uh BR) hb
   clear BR hb; have BR := BR_; clear BR_; go_wp2_with fail
   refine hK.out _ _ (⟨(uh A).ups (uh BR), (uh B).ups (uh BR), (uh C).ups (uh BR), (uh E).ups (uh BR), (uh F).ups (uh BR), (uh I).ups (uh BR), (uh J).ups (uh BR), (uh Z).ups (uh BR), (uh L).ups (uh BR)⟩) (fun hHeld2 => ?_)
   clear hK K hHeld; have hHeld := hHeld2; clear hHeld2
   try simp only [Act.put, p1, p2, p3]
   refine takeVal 62 (some 186) ?_ rfl (by kernel_rfl) (by kernel_rfl) (by kernel_rfl) rfl (fun _ _ _ h => h) (by rfl) (by assumption) ?_ ?_; rotate_left; (intro w hSw; (try dsimp only at hSw); clear hSw; go_simp <;> with_reducible rfl); simp only [Act.put, p1, p2, p3]
   refine takeVal 63 (some 187) ?_ rfl (by kernel_rfl) (by kernel_rfl) (by kernel_rfl) rfl (fun _ _ _ h => h) (by rfl) (by assumption) ?_ ?_; rotate_left; (intro w hSw; (try dsimp only at hSw); clear hSw; go_simp <;> with_reducible rfl); simp only [Act.put, p1, p2, p3]
   refine takeVal 64 (some 188) ?_ rfl (by kernel_rfl) (by kernel_rfl) (by kernel_rfl) rfl (fun _ _ _ h => h) (by rfl) (by assumption) ?_ ?_; rotate_left; (intro w hSw; (try dsimp only at hSw); clear hSw; go_simp <;> with_reducible rfl); simp only [Act.put, p1, p2, p3]
   refine takeVal 65 (some 189) ?_ rfl (by kernel_rfl) (by kernel_rfl) (by kernel_rfl) rfl (fun _ _ _ h => h) (by rfl) (by assumption) ?_ ?_; rotate_left; (intro w hSw; (try dsimp only at hSw); have hO := hSw.2.1; clear hSw; have c0 := hO.cell 0 rfl; have c1 := hO.cell 1 rfl; have c2 := hO.cell 2 rfl; have c3 := hO.cell 3 rfl; have c4 := hO.cell 4 rfl; have c5 := hO.cell 5 rfl; have c6 := hO.cell 6 rfl; clear hO; go_simp <;> with_reducible rfl); simp only [Act.put, p1, p2, p3]
   refine takeVal 67 (some 191) ?_ rfl (by kernel_rfl) (by kernel_rfl) (by kernel_rfl) rfl (fun _ _ _ h => h) (by rfl) (by assumption) ?_ ?_; rotate_left; (intro w hSw; (try dsimp only at hSw); have hO := hSw.2.1; clear hSw; have c0 := hO.cell 0 rfl; have c1 := hO.cell 1 rfl; have c2 := hO.cell 2 rfl; have c3 := hO.cell 3 rfl; have c4 := hO.cell 4 rfl; have c5 := hO.cell 5 rfl; have c6 := hO.cell 6 rfl; clear hO; go_simp <;> with_reducible rfl); simp only [Act.put, p1, p2, p3]
   refine wpAnyH_ready (rs := [66]) (by kernel_rfl) (by simp) ?_
   refine AllReadyH.cons rfl (fun K hK => ?_) AllReadyH.nil
   go_simp
   refine (impl_BoxOk_any bB _ _ _ _ (uh FTB) ((uh OB).up (uh BR))).mono ?_
   rintro e wnt37 ⟨rfl, hb⟩
   have BR_ : Hid (Below w25.heap.size w25 wnt37) := below_y (uh BR) hb
   clear BR hb; have BR := BR_; clear BR_; go_wp2_with fail
   refine hK.out _ _ (⟨(uh A).ups (uh BR), (uh B).ups (uh BR), (uh C).ups (uh BR), (uh E).ups (uh BR), (uh F).ups (uh BR), (uh I).ups (uh BR), (uh J).ups (uh BR), (uh Z).ups (uh BR), (uh L).ups (uh BR)⟩) (fun hHeld2 => ?_)
   clear hK K hHeld; have hHeld := hHeld2; clear hHeld2
   try simp only [Act.put, p1, p2, p3]
   refine wpAnyH_ready (rs := [68]) (by kernel_rfl) (by simp) ?_
   refine AllReadyH.cons rfl (fun K hK => ?_) AllReadyH.nil
   go_simp
   refine (spec_BoxOk_any bB _ _ _ _ (uh FTB) ((uh OB).up (uh BR))).mono ?_
   rintro e wnt38 ⟨rfl, hb⟩
   have BR_ : Hid (Below w25.heap.size w25 wnt38) := below_y (uh BR) hb
   clear BR hb; have BR := BR_; clear BR_; go_wp2_with fail
   refine hK.out _ _ (⟨(uh A).ups (uh BR), (uh B).ups (uh BR), (uh C).ups (uh BR), (uh E).ups (uh BR), (uh F).ups (uh BR), (uh I).ups (uh BR), (uh J).ups (uh BR), (uh Z).ups (uh BR), (uh L).ups (uh BR)⟩) (fun hHeld2 => ?_)
   clear hK K hHeld; have hHeld := hHeld2; clear hHeld2
   try simp only [Act.put, p1, p2, p3]
   refine takeVal 69 (some 193) ?_ rfl (by kernel_rfl) (by kernel_rfl) (by kernel_rfl) rfl (fun _ _ _ h => h) (by rfl) (by assumption) ?_ ?_; rotate_left; (intro w hSw; (try dsimp only at hSw); clear hSw; go_simp <;> with_reducible rfl); simp only [Act.put, p1, p2, p3]
   refine takeVal 70 (some 194) ?_ rfl (by kernel_rfl) (by kernel_rfl) (by kernel_rfl) rfl (fun _ _ _ h => h) (by rfl) (by assumption) ?_ ?_; rotate_left; (intro w hSw; (try dsimp only at hSw); clear hSw; go_simp <;> with_reducible rfl); simp only [Act.put, p1, p2, p3]
   refine takeVal 71 (some 2) ?_ rfl (by kernel_rfl) (by kernel_rfl) (by kernel_rfl) rfl (fun _ _ _ h => h) (by rfl) (by assumption) ?_ ?_; rotate_left; (intro w hSw; (try dsimp only at hSw); clear hSw; go_simp <;> with_reducible rfl); simp only [Act.put, p1, p2, p3]
   refine wpAnyH_done (by kernel_rfl) ?_ _
   go_wp2
   go_ret
   exact ⟨by simp, below_y (uh BB) (uh BR)⟩
  | false =>
   refine takeVal 54 (some 178) ?_ rfl (by kernel_rfl) (by kernel_rfl) (by kernel_rfl) rfl (fun _ _ _ h => h) (by rfl) (by assumption) ?_ ?_; rotate_left; (intro w hSw; (try dsimp only at hSw); clear hSw; go_simp <;> with_reducible rfl); simp only [Act.put, p1, p2, p3]
   refine takeVal 55 (some 179) ?_ rfl (by kernel_rfl) (by kernel_rfl) (by kernel_rfl) rfl (fun _ _ _ h => h) (by rfl) (by assumption) ?_ ?_; rotate_left; (intro w hSw; (try dsimp only at hSw); clear hSw; go_simp <;> with_reducible rfl); simp only [Act.put, p1, p2, p3]
   refine takeVal 56 (some 180) ?_ rfl (by kernel_rfl) (by kernel_rfl) (by kernel_rfl) rfl (fun _ _ _ h => h) (by rfl) (by assumption) ?_ ?_; rotate_left; (intro w hSw; (try dsimp only at hSw); clear hSw; go_simp <;> with_reducible rfl); simp only [Act.put, p1, p2, p3]
   refine takeVal 57 (some 181) ?_ rfl (by kernel_rfl) (by kernel_rfl) (by kernel_rfl) rfl (fun _ _ _ h => h) (by rfl) (by assumption) ?_ ?_; rotate_left; (intro w hSw; (try dsimp only at hSw); clear hSw; go_simp <;> with_reducible rfl); simp only [Act.put, p1, p2, p3]
   refine takeVal 58 (some 182) ?_ rfl (by kernel_rfl) (by kernel_rfl) (by kernel_rfl) rfl (fun _ _ _ h => h) (by rfl) (by assumption) ?_ ?_; rotate_left; (intro w hSw; (try dsimp only at hSw); clear hSw; go_simp <;> with_reducible rfl); simp only [Act.put, p1, p2, p3]
   refine takeVal 59 (some 183) ?_ rfl (by kernel_rfl) (by kernel_rfl) (by kernel_rfl) rfl (fun _ _ _ h => h) (by rfl) (by assumption) ?_ ?_; rotate_left; (intro w hSw; (try dsimp only at hSw); clear hSw; go_simp <;> with_reducible rfl); simp only [Act.put, p1, p2, p3]
   refine tk 60 184 ?_; refine tk 61 185 ?_
   refine takeVal 62 (some 186) ?_ rfl (by kernel_rfl) (by kernel_rfl) (by kernel_rfl) rfl (fun _ _ _ h => h) (by rfl) (by assumption) ?_ ?_; rotate_left; (intro w hSw; (try dsimp only at hSw); clear hSw; go_simp <;> with_reducible rfl); simp only [Act.put, p1, p2, p3]
   refine takeVal 63 (some 187) ?_ rfl (by kernel_rfl) (by kernel_rfl) (by kernel_rfl) rfl (fun _ _ _ h => h) (by rfl) (by assumption) ?_ ?_; rotate_left; (intro w hSw; (try dsimp only at hSw); clear hSw; go_simp <;> with_reducible rfl); simp only [Act.put, p1, p2, p3]
   refine takeVal 64 (some 188) ?_ rfl (by kernel_rfl) (by kernel_rfl) (by kernel_rfl) rfl (fun _ _ _ h => h) (by rfl) (by assumption) ?_ ?_; rotate_left; (intro w hSw; (try dsimp only at hSw); clear hSw; go_simp <;> with_reducible rfl); simp only [Act.put, p1, p2, p3]
   refine takeVal 65 (some 189) ?_ rfl (by kernel_rfl) (by kernel_rfl) (by kernel_rfl) rfl (fun _ _ _ h => h) (by rfl) (by assumption) ?_ ?_; rotate_left; (intro w hSw; (try dsimp only at hSw); have hO := hSw.2.1; clear hSw; have c0 := hO.cell 0 rfl; have c1 := hO.cell 1 rfl; have c2 := hO.cell 2 rfl; have c3 := hO.cell 3 rfl; have c4 := hO.cell 4 rfl; have c5 := hO.cell 5 rfl; have c6 := hO.cell 6 rfl; clear hO; go_simp <;> with_reducible rfl); simp only [Act.put, p1, p2, p3]
   refine takeVal 67 (some 191) ?_ rfl (by kernel_rfl) (by kernel_rfl) (by kernel_rfl) rfl (fun _ _ _ h => h) (by rfl) (by assumption) ?_ ?_; rotate_left; (intro w hSw; (try dsimp only at hSw); have hO := hSw.2.1; clear hSw; have c0 := hO.cell 0 rfl; have c1 := hO.cell 1 rfl; have c2 := hO.cell 2 rfl; have c3 := hO.cell 3 rfl; have c4 := hO.cell 4 rfl; have c5 := hO.cell 5 rfl; have c6 := hO.cell 6 rfl; clear hO; go_simp <;> with_reducible rfl); simp only [Act.put, p1, p2, p3]
   refine wpAnyH_ready (rs := [66]) (by kernel_rfl) (by simp) ?_
   refine AllReadyH.cons rfl (fun K hK => ?_) AllReadyH.nil
   go_simp
   refine (impl_BoxOk_any bB _ _ _ _ (uh FTB) ((uh OB).up (uh BR))).mono ?_
   rintro e wnf36 ⟨rfl, hb⟩
   have BR_ : Hid (Below w25.heap.size w25 wnf36) := below_y (uh BR) hb
   clear BR hb; have BR := BR_; clear BR_; go_wp2_with fail
   refine hK.out _ _ (⟨(uh A).ups (uh BR), (uh B).ups (uh BR), (uh C).ups (uh BR), (uh E).ups (uh BR), (uh F).ups (uh BR), (uh I).ups (uh BR), (uh J).ups (uh BR), (uh Z).ups (uh BR), (uh L).ups (uh BR)⟩) (fun hHeld2 => ?_)
   clear hK K hHeld; have hHeld := hHeld2; clear hHeld2
   try simp only [Act.put, p1, p2, p3]
   refine wpAnyH_ready (rs := [68]) (by kernel_rfl) (by simp) ?_
   refine AllReadyH.cons rfl (fun K hK => ?_) AllReadyH.nil
   go_simp
   refine (spec_BoxOk_any bB _ _ _ _ (uh FTB) ((uh OB).up (uh BR))).mono ?_
   rintro e wnf37 ⟨rfl, hb⟩
   have BR_ : Hid (Below w25.heap.size w25 wnf37) := below_y (uh BR) hb
   clear BR hb; have BR := BR_; clear BR_; go_wp2_with fail
   refine hK.out _ _ (⟨(uh A).ups (uh BR), (uh B).ups (uh BR), (uh C).ups (uh BR), (uh E).ups (uh BR), (uh F).ups (uh BR), (uh I).ups (uh BR), (uh J).ups (uh BR), (uh Z).ups (uh BR), (uh L).ups (uh BR)⟩) (fun hHeld2 => ?_)
   clear hK K hHeld; have hHeld := hHeld2; clear hHeld2
   try simp only [Act.put, p1, p2, p3]
   refine takeVal 69 (some 193) ?_ rfl (by kernel_rfl) (by kernel_rfl) (by kernel_rfl) rfl (fun _ _ _ h => h) (by rfl) (by assumption) ?_ ?_; rotate_left; (intro w hSw; (try dsimp only at hSw); clear hSw; go_simp <;> with_reducible rfl); simp only [Act.put, p1, p2, p3]
   refine takeVal 70 (some 194) ?_ rfl (by kernel_rfl) (by kernel_rfl) (by kernel_rfl) rfl (fun _ _ _ h => h) (by rfl) (by assumption) ?_ ?_; rotate_left; (intro w hSw; (try dsimp only at hSw); clear hSw; go_simp <;> with_reducible rfl); simp only [Act.put, p1, p2, p3]
   refine takeVal 71 (some 2) ?_ rfl (by kernel_rfl) (by kernel_rfl) (by kernel_rfl) rfl (fun _ _ _ h => h) (by rfl) (by assumption) ?_ ?_; rotate_left; (intro w hSw; (try dsimp only at hSw); clear hSw; go_simp <;> with_reducible rfl); simp only [Act.put, p1, p2, p3]
   refine wpAnyH_done (by kernel_rfl) ?_ _
   go_wp2
   go_ret
   exact ⟨by simp, below_y (uh BB) (uh BR)⟩
end Go.Proofs.YtlngjflhbkannaaGreat
