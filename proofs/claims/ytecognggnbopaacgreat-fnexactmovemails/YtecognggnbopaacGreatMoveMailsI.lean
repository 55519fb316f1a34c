/- The program's takeMails and MoveMails. Made by gen_stores.py. -/
import Derived.Test.YtecognggnbopaacGreatStB
import Derived.Test.YtecognggnbopaacGreatCopyMailsI
import Derived.Test.YtecognggnbopaacGreatSetFlagsI
import Derived.Test.YtecognggnbopaacGreatExpungeI
namespace Go.Proofs.YtecognggnbopaacGreat
open Go.RowKit
open Plain
set_option linter.unusedVariables false
set_option linter.unusedSimpArgs false

theorem fillM_grown {W : World} {g : Nat} {u0 u1 u2 u3 u4 u5 u6 : Value} : W.grownBy (((((((W.setCell ⟨g, 0, none⟩ u0).setCell ⟨g, 1, none⟩ u1).setCell ⟨g, 2, none⟩ u2).setCell ⟨g, 3, none⟩ u3).setCell ⟨g, 4, none⟩ u4).setCell ⟨g, 5, none⟩ u5).setCell ⟨g, 6, none⟩ u6) (some g) := g_store (g_store (g_store (g_store (g_store (g_store (g_store (g_self _ _) _) _) _) _) _) _) _
set_option maxHeartbeats 8000000 in
set_option maxRecDepth 100000 in
theorem takeMails_any (b : Bx) (m t : Value) (g : Nat) (set : List Rg) (vs : Value) (B B2 : Nat) (w : World) (hok : boxOk b = true) (hs : set.length ≤ 1048576) (hg : HasObj w g 46 (lbC ⟨b, m, t⟩)) (h : OwnBx B w m t b) (h2 : OwnR B2 w vs set) :
  Calls Tryz.prog 29 #[.pointer (some ⟨g, 0, none⟩), vs] w fun e w' => e = .returned (.bool (decide (inSet set (takeV b set).1 = []))) ∧ (∃ m' t', HasObj w' g 46 (lbC ⟨(takeV b set).1, m', t'⟩) ∧ OwnBx w.heap.size w' m' t' (takeV b set).1) ∧ w.grownBy w' (some g) := by
 obtain ⟨am, cm, rfl⟩ := g_shape h.1
 obtain ⟨at1, ct1, rfl⟩ := g_shape h.2
 have gm : g < w.heap.size := hg.lt
 have OX := hide h; have RS := hide h2; have G := hide hg; have BB := hide (g_self w (some g)); have FX := hide (fit_ok hok)
 obtain ⟨fb, hfb⟩ : ∃ fb, fb = (flagsV b set 2 8 (-1)).1 := ⟨_, rfl⟩
 have OKF : Hid (boxOk fb = true) := by show _ = _; rw [hfb]; exact flags_keeps hok
 have FF := hide (fit_ok (uh OKF)); have HFB := hide hfb
 obtain ⟨c, gone, hcg⟩ : ∃ c gone, (c, gone) = expV fb set := ⟨_, _, rfl⟩
 have HCG := hide hcg
 have EC : Hid ((takeV b set).1 = c) := by show _ = _; unfold takeV; rw [← hfb, ← hcg]
 have OKC : Hid (boxOk c = true) := by show _ = _; rw [← uh EC]; exact take_ok set hok
 have l30 := (head_parts (boxOk_iff.1 (uh OKC)).1).2.2.2.2.1; clear h h2 hg hfb hcg; have Gc0_1 := (uh G).cell 0 rfl; have Gc1_1 := (uh G).cell 1 rfl; have Gc2_1 := (uh G).cell 2 rfl; have Gc3_1 := (uh G).cell 3 rfl; have Gc4_1 := (uh G).cell 4 rfl; have Gc5_1 := (uh G).cell 5 rfl; have Gc6_1 := (uh G).cell 6 rfl
 go_enter Tryz.func29, Tryz.ntmps29
 go_wp2_with fail; clear Gc0_1 Gc1_1 Gc2_1 Gc3_1 Gc4_1 Gc5_1 Gc6_1
 refine (impl_SetFlags_any b _ _ _ set vs 2 8 (-1) _ (uh FX) hs (uh RS).wide (uh OX)).mono ?_
 rintro e wk1 ⟨mF, tF, vD, vL, rfl, oF, _, _, _, hb⟩
 rw [← uh HFB] at oF ⊢
 obtain ⟨amF, cmF, rfl⟩ := g_shape oF.1
 obtain ⟨atF, ctF, rfl⟩ := g_shape oF.2
 have OF_ := hide oF; clear oF OX; replace G := hide ((uh G).ups hb); replace RS := hide ((uh RS).up hb); have sz1 := hide (hb.size); replace BB := hide (g_then (uh BB) hb); clear hb; have OF := OF_; clear OF_
 obtain ⟨wk2, hF⟩ : ∃ X, X = wk1.alloc (.cells ([.string fb.name, .int .i64 fb.valid, .int .i64 fb.next, .int .i64 fb.mod, .slice amF fb.mails.length cmF, .slice atF fb.tombs.length ctF, .int .i64 fb.hor] : List Value).toArray 46) := ⟨_, rfl⟩
 have Fx : HasObj wk2 wk1.heap.size 46 [.string fb.name, .int .i64 fb.valid, .int .i64 fb.next, .int .i64 fb.mod, .slice amF fb.mails.length cmF, .slice atF fb.tombs.length ctF, .int .i64 fb.hor] := by rw [hF]; exact HasObj.new _ _ _
 have hbn : Below wk1.heap.size wk1 wk2 := by rw [hF]; exact (Below.refl _ _).alloc (Nat.le_refl _) _
 have neGF : g ≠ wk1.heap.size := Nat.ne_of_lt (uh G).lt
 have loF : w.heap.size ≤ wk1.heap.size := (uh BB).size
 have EF := hF.symm; clear hF; replace G := hide ((uh G).ups hbn); replace RS := hide ((uh RS).up hbn); replace OF := hide ((uh OF).up hbn); have sz2 := hide (hbn.size); replace BB := hide (g_then (uh BB) hbn); clear hbn; have F := hide Fx; clear Fx; have Fc0_2 := (uh F).cell 0 rfl; have Fc1_2 := (uh F).cell 1 rfl; have Fc2_2 := (uh F).cell 2 rfl; have Fc3_2 := (uh F).cell 3 rfl; have Fc4_2 := (uh F).cell 4 rfl; have Fc5_2 := (uh F).cell 5 rfl; have Fc6_2 := (uh F).cell 6 rfl; go_wp2_with fail; clear Fc0_2 Fc1_2 Fc2_2 Fc3_2 Fc4_2 Fc5_2 Fc6_2 EF
 have LO8 : Hid (w.heap.size ≤ wk2.heap.size) := (uh BB).size
 refine (impl_Expunge_any fb _ _ _ set vs _ (uh FF) hs (uh RS).wide (uh OF)).mono ?_
 rintro e wk3 ⟨mC, tC, vG, rfl, oC, _, hb⟩
 rw [← uh HCG] at oC ⊢
 simp only at oC ⊢
 obtain ⟨amC, cmC, rfl⟩ := g_shape oC.1
 obtain ⟨atC, ctC, rfl⟩ := g_shape oC.2
 have OC_ := hide (oC.based (uh LO8)); clear oC OF; replace G := hide ((uh G).ups hb); replace F := hide ((uh F).ups hb); replace RS := hide ((uh RS).up hb); have sz3 := hide (hb.size); replace BB := hide (g_then (uh BB) hb); clear hb; have OC := OC_; clear OC_; have Gf0 := (uh G).frozen 0; have Gf1 := (uh G).frozen 1; have Gf2 := (uh G).frozen 2; have Gf3 := (uh G).frozen 3; have Gf4 := (uh G).frozen 4; have Gf5 := (uh G).frozen 5; have Gf6 := (uh G).frozen 6; have Ge0 := (uh G).cell 0 rfl; have Ge1 := (uh G).cell 1 rfl; have Ge2 := (uh G).cell 2 rfl; have Ge3 := (uh G).cell 3 rfl; have Ge4 := (uh G).cell 4 rfl; have Ge5 := (uh G).cell 5 rfl; have Ge6 := (uh G).cell 6 rfl; have F_ := fill7 (uh G) (.string c.name) (.int .i64 c.valid) (.int .i64 c.next) (.int .i64 c.mod) (.slice amC c.mails.length cmC) (.slice atC c.tombs.length ctC) (.int .i64 c.hor); have FG := @fillM_grown wk3 g (.string c.name) (.int .i64 c.valid) (.int .i64 c.next) (.int .i64 c.mod) (.slice amC c.mails.length cmC) (.slice atC c.tombs.length ctC) (.int .i64 c.hor)
 obtain ⟨wk4, hU⟩ : ∃ X, X = (((((((wk3.setCell ⟨g, 0, none⟩ (.string c.name)).setCell ⟨g, 1, none⟩ (.int .i64 c.valid)).setCell ⟨g, 2, none⟩ (.int .i64 c.next)).setCell ⟨g, 3, none⟩ (.int .i64 c.mod)).setCell ⟨g, 4, none⟩ (.slice amC c.mails.length cmC)).setCell ⟨g, 5, none⟩ (.slice atC c.tombs.length ctC)).setCell ⟨g, 6, none⟩ (.int .i64 c.hor)) := ⟨_, rfl⟩
 rw [← hU] at F_ FG
 have EU := hU.symm; clear hU; have G_ := hide F_.obj
 have RS_ : Hid (OwnR B2 wk4 vs set) := F_.row (by decide) (uh RS)
 have OC_ : Hid (OwnBx w.heap.size wk4 (.slice amC c.mails.length cmC) (.slice atC c.tombs.length ctC) c) := ⟨F_.row (by decide) (uh OC).1, F_.row (by decide) (uh OC).2⟩
 have BB_ := hide (g_join (uh BB) FG); clear F_ FG G RS OC BB F; have G := G_; have RS := RS_; have OC := OC_; have BB := BB_; clear G_ RS_ OC_ BB_; go_wp2_with fail; clear Gf0 Gf1 Gf2 Gf3 Gf4 Gf5 Gf6 Ge0 Ge1 Ge2 Ge3 Ge4 Ge5 Ge6 EU
 refine (mailsIn_any c _ _ g set vs _ _ _ (by omega) hs (uh G) (uh OC) (uh RS)).mono ?_
 rintro e wk5 ⟨vM, rfl, oM, hb⟩
 obtain ⟨aM, cM, rfl⟩ := g_shape oM
 clear oM; replace G := hide ((uh G).ups hb); replace RS := hide ((uh RS).up hb); replace OC := hide ((uh OC).up hb); have sz4 := hide (hb.size); replace BB := hide (g_then (uh BB) hb); clear hb
 obtain ⟨n9, hn9⟩ : ∃ n9, n9 = (inSet set c).length := ⟨_, rfl⟩
 have d9 : Hid (((n9 : Int) == 0) = decide (inSet set c = [])) := by show _ = _; rw [hn9, Bool.eq_iff_iff, beq_iff_eq, decide_eq_true_eq]; constructor; (intro e; exact List.eq_nil_of_length_eq_zero (by omega)); (intro e; rw [e]; rfl)
 rw [← hn9]
 clear hn9
 obtain ⟨q9, hq9⟩ : ∃ q9, q9 = decide (inSet set c = []) := ⟨_, rfl⟩
 have d8 : ((n9 : Int) == 0) = q9 := (uh d9).trans hq9.symm
 have HQ9 := hide hq9; clear hq9
 go_wp2
 go_ret
 rw [uh EC, ← uh HQ9]
 exact ⟨by first | rfl | (simp only [d8]; rfl), ⟨_, _, uh G, uh OC⟩, uh BB⟩
set_option maxHeartbeats 16000000 in
set_option maxRecDepth 100000 in
theorem impl_MoveMails_any (s : Sx) (src dst : ByteArray) (set : List Rg) (v vs : Value) (B B2 : Nat) (w : World) (hf : FitSt s) (hz1 : src.size ≤ 1048576) (hz2 : dst.size ≤ 1048576) (hs : set.length ≤ 1048576) (h : ReadSt B w v s.boxes) (h2 : OwnR B2 w vs set) :
  Calls Tryz.prog 9 #[.agg #[v, .int .i64 s.valid], .string src, vs, .string dst] w fun e w' => ∃ v', e = .returned (.tuple #[.agg #[v', .int .i64 (moveV s src set dst).1.valid], .int .i64 (moveV s src set dst).2]) ∧ OwnSt w.heap.size w' v' (moveV s src set dst).1.boxes ∧ Below w.heap.size w w' := by
 have FT := hide hf
 obtain ⟨L, hL, h⟩ := h
 obtain ⟨a1, c1, rfl⟩ := g_shape h.row
 obtain ⟨n, hn⟩ : ∃ n, n = s.boxes.length := ⟨_, rfl⟩
 have hn1 : L.length = n := by rw [hn, ← hL, List.length_map]
 have hnl := hf.len
 rw [← hn] at hnl
 have S1 := hide h
 rw [hn1] at S1 ⊢
 have FE := hide hf.each; have HL := hide hL; have HN := hide hn; have HN1 := hide hn1; clear h hL hn hn1 hf
 have NS : Hid (∀ q, BlkBs (.slice a1 n c1) L q → q < w.heap.size) := fun q hq => ((uh S1).base q hq).2
 have RS := hide h2; have FLD := field_named; clear h2; have BB := hide (Below.refl w.heap.size w)
 obtain ⟨wv1, hA⟩ : ∃ X, X = w.alloc (.cells ([.slice a1 n c1, .int .i64 s.valid] : List Value).toArray 30) := ⟨_, rfl⟩
 have Ax : HasObj wv1 w.heap.size 30 [.slice a1 n c1, .int .i64 s.valid] := by rw [hA]; exact HasObj.new _ _ _
 have hbn : Below w.heap.size w wv1 := by rw [hA]; exact (Below.refl _ _).alloc (Nat.le_refl _) _
 have loA : w.heap.size ≤ w.heap.size := (uh BB).size
 have EA := hA.symm; clear hA; replace S1 := hide ((uh S1).up hbn); replace RS := hide ((uh RS).up hbn); have sz1 := hide (hbn.size); replace BB := hide (below_y (uh BB) hbn); clear hbn; have A := hide Ax; clear Ax
 obtain ⟨wv2, hR⟩ : ∃ X, X = wv1.alloc (.cells ([.slice none 0 0, .int .i64 0] : List Value).toArray 30) := ⟨_, rfl⟩
 have Rx : HasObj wv2 wv1.heap.size 30 [.slice none 0 0, .int .i64 0] := by rw [hR]; exact HasObj.new _ _ _
 have hbn : Below wv1.heap.size wv1 wv2 := by rw [hR]; exact (Below.refl _ _).alloc (Nat.le_refl _) _
 have neAR : w.heap.size ≠ wv1.heap.size := Nat.ne_of_lt (uh A).lt
 have loR : w.heap.size ≤ wv1.heap.size := (uh BB).size
 have ER := hR.symm; clear hR; replace A := hide ((uh A).ups hbn); replace S1 := hide ((uh S1).up hbn); replace RS := hide ((uh RS).up hbn); have sz2 := hide (hbn.size); replace BB := hide (below_y (uh BB) hbn); clear hbn; have R := hide Rx; clear Rx; have Ac0_1 := (uh A).cell 0 rfl; have Ac1_1 := (uh A).cell 1 rfl
 go_enter Tryz.func9, Tryz.ntmps9
 cases hse : (src.toList == dst.toList) with
 | true =>
  have ANS : Hid (moveV s src set dst = (s, 4)) := moveV_bad (same_iff.1 hse)
  have Ac0_2 := (uh A).cell 0 rfl; have Ac1_2 := (uh A).cell 1 rfl; go_wp2_with fail; clear Ac0_1 Ac1_1 Ac0_2 Ac1_2 EA ER
  have LO9 : w.heap.size ≤ wv2.heap.size := (uh BB).size
  refine (copiedStore_any s _ _ _ (uh FT) ⟨L, uh HL, uh S1⟩).mono ?_
  rintro e wva3 ⟨v9, rfl, o9, hb⟩
  obtain ⟨a9, c9, rfl⟩ := o9.shape
  have OW_ := hide (o9.based LO9); clear o9; replace A := hide ((uh A).ups hb); replace R := hide ((uh R).ups hb); replace S1 := hide ((uh S1).up hb); replace RS := hide ((uh RS).up hb); have sz3 := hide (hb.size); replace BB := hide (below_y (uh BB) hb); clear hb; have OW := OW_; clear OW_; have Rf0 := (uh R).frozen 0; have Rf1 := (uh R).frozen 1; have Re0 := (uh R).cell 0 rfl; have Re1 := (uh R).cell 1 rfl; have F := hide (fill2 (uh R) (.slice a9 s.boxes.length c9) (.int .i64 s.valid))
  obtain ⟨U, hU⟩ : ∃ U, U = ((wva3.setCell ⟨wv1.heap.size, 0, none⟩ (.slice a9 s.boxes.length c9)).setCell ⟨wv1.heap.size, 1, none⟩ (.int .i64 s.valid)) := ⟨_, rfl⟩
  have F9 := uh F
  rw [← hU] at F9
  have EU := hU.symm; clear F hU; have v0 := F9.obj.cell 0 rfl; have v1 := F9.obj.cell 1 rfl; have F := hide F9; clear F9
  go_wp2_with (refine bodyPost_ret (by simp [results, Tryz.results9, go_sem, v0, v1]; try rfl) rfl ?_)
  clear EU; have F := uh F
  rw [uh ANS]
  exact ⟨_, rfl, (uh OW).filled F (by decide) (by decide) (by decide), F.below loR (uh BB)⟩
 | false =>
  have hne : src ≠ dst := fun e => by rw [same_iff.2 e] at hse; cases hse
  have HNE := hide hne; clear hne; have Ac0_2 := (uh A).cell 0 rfl; have Ac1_2 := (uh A).cell 1 rfl; go_wp2_with fail; clear Ac0_1 Ac1_1 Ac0_2 Ac1_2 EA ER
  obtain ⟨z, code, hzc⟩ : ∃ z code, (z, code) = copyV s src set dst := ⟨_, _, rfl⟩
  have LOC : Hid (w.heap.size ≤ wv2.heap.size) := (uh BB).size
  refine (impl_CopyMails_any s src dst set _ vs _ _ _ (uh FT) hz1 hz2 hs ⟨L, uh HL, uh S1⟩ (uh RS)).mono ?_
  rintro e wv3 ⟨vC, rfl, oC, hb⟩
  rw [← hzc] at oC ⊢
  simp only at oC ⊢
  have HZC := hide hzc
  obtain ⟨aC, cC, rfl⟩ := oC.shape
  have OC_ := hide (oC.based (uh LOC)); clear oC hzc hse; replace A := hide ((uh A).ups hb); replace R := hide ((uh R).ups hb); replace S1 := hide ((uh S1).up hb); replace RS := hide ((uh RS).up hb); have sz3 := hide (hb.size); replace BB := hide (below_y (uh BB) hb); clear hb; have OC := OC_; clear OC_
  obtain ⟨wv4, hC⟩ : ∃ X, X = wv3.alloc (.cells ([.slice aC z.boxes.length cC, .int .i64 z.valid] : List Value).toArray 30) := ⟨_, rfl⟩
  have Cx : HasObj wv4 wv3.heap.size 30 [.slice aC z.boxes.length cC, .int .i64 z.valid] := by rw [hC]; exact HasObj.new _ _ _
  have hbn : Below wv3.heap.size wv3 wv4 := by rw [hC]; exact (Below.refl _ _).alloc (Nat.le_refl _) _
  have neAC : w.heap.size ≠ wv3.heap.size := Nat.ne_of_lt (uh A).lt
  have neRC : wv1.heap.size ≠ wv3.heap.size := Nat.ne_of_lt (uh R).lt
  have loC : w.heap.size ≤ wv3.heap.size := (uh BB).size
  have EC := hC.symm; clear hC; replace A := hide ((uh A).ups hbn); replace R := hide ((uh R).ups hbn); replace S1 := hide ((uh S1).up hbn); replace RS := hide ((uh RS).up hbn); replace OC := hide ((uh OC).up hbn); have sz4 := hide (hbn.size); replace BB := hide (below_y (uh BB) hbn); clear hbn; have C := hide Cx; clear Cx
  by_cases hc : code = 0
  ·subst hc
   have CE0 : Hid ((copyV s src set dst).2 = 0) := (congrArg Prod.snd (uh HZC)).symm
   have CZ : Hid ((copyV s src set dst).1 = z) := (congrArg Prod.fst (uh HZC)).symm
   obtain ⟨_, _, a, _, hoka, hata, hall, hlen, hval⟩ := copyV_done (uh HNE) (uh CE0)
   rw [uh CZ] at hata hall hlen hval
   have FZ : Hid (FitSt z) := ⟨by have := (uh FT).len; omega, fun b hb => fit_ok (hall b hb)⟩
   have MV : Hid (moveV s src set dst = if inSet set (takeV a set).1 = [] then (putSt z (takeV a set).1, 0) else (s, 3)) := by show _ = _; rw [moveV_in (uh HNE) (uh CE0) (by rw [uh CZ]; exact hata), uh CZ]
   have HATA := hide hata; have HLEN := hide hlen; have HOKA := hide hoka; clear hata hall hlen hval hoka; have Cc0_3 := (uh C).cell 0 rfl; have Cc1_3 := (uh C).cell 1 rfl; go_wp2_with fail; clear Cc0_3 Cc1_3 EC
   have LOP : Hid (w.heap.size ≤ wv4.heap.size) := (uh BB).size
   refine (openedStore_any z _ _ _ (uh FZ) (uh OC).read).mono ?_
   rintro e wv5 ⟨vP, mbP, P, hPP, rfl, oS, hb⟩
   obtain ⟨aP, cP, rfl⟩ := g_shape oS.row
   rw [List.length_map] at oS ⊢
   have OSP_ := hide (oS.based (uh LOP)); have HPP := hide hPP; clear oS hPP; replace A := hide ((uh A).ups hb); replace R := hide ((uh R).ups hb); replace C := hide ((uh C).ups hb); replace S1 := hide ((uh S1).up hb); replace RS := hide ((uh RS).up hb); replace OC := hide ((uh OC).up hb); have sz5 := hide (hb.size); replace BB := hide (below_y (uh BB) hb); clear hb; have OSP := OSP_; clear OSP_
   replace LOP : Hid (w.heap.size ≤ wv5.heap.size) := (uh BB).size
   obtain ⟨wv6, hO⟩ : ∃ X, X = wv5.alloc (.cells ([.slice aP P.length cP, .map (some mbP), .int .i64 z.valid] : List Value).toArray 66) := ⟨_, rfl⟩
   have Ox : HasObj wv6 wv5.heap.size 66 [.slice aP P.length cP, .map (some mbP), .int .i64 z.valid] := by rw [hO]; exact HasObj.new _ _ _
   have hbn : Below wv5.heap.size wv5 wv6 := by rw [hO]; exact (Below.refl _ _).alloc (Nat.le_refl _) _
   have neAO : w.heap.size ≠ wv5.heap.size := Nat.ne_of_lt (uh A).lt
   have neRO : wv1.heap.size ≠ wv5.heap.size := Nat.ne_of_lt (uh R).lt
   have neCO : wv3.heap.size ≠ wv5.heap.size := Nat.ne_of_lt (uh C).lt
   have loO : w.heap.size ≤ wv5.heap.size := (uh BB).size
   have EO := hO.symm; clear hO; replace A := hide ((uh A).ups hbn); replace R := hide ((uh R).ups hbn); replace C := hide ((uh C).ups hbn); replace S1 := hide ((uh S1).up hbn); replace RS := hide ((uh RS).up hbn); replace OC := hide ((uh OC).up hbn); replace OSP := hide ((uh OSP).up hbn); have sz6 := hide (hbn.size); replace BB := hide (below_y (uh BB) hbn); clear hbn; have O := hide Ox; clear Ox; have LK := (uh OSP).look hz1
   cases hfb : findB P src with
   | none =>
    have h9 := found_no (uh HPP) hfb
    rw [uh HATA] at h9
    cases h9
   | some g1 =>
    rw [hfb] at LK
    simp only [ptrOf] at LK
    obtain ⟨k1, x1, hk1, hb1, hs1, hno1, at1⟩ := found_at (uh HPP) hfb
    rw [uh HATA] at at1
    have ex1 : x1.b = a := (Option.some.inj at1).symm
    obtain ⟨b1, m1, t1⟩ := x1
    simp only at ex1 hb1 hs1
    subst ex1
    have HK1 := hide hk1; have HB1 := hide hb1; have HS1 := hide hs1; have HNO1 := hide hno1; clear hk1 hb1 hs1 hno1 at1 hfb; have Oc0_4 := (uh O).cell 0 rfl; have Oc1_4 := (uh O).cell 1 rfl; have Oc2_4 := (uh O).cell 2 rfl
    have PLT : Hid (∀ p ∈ P, ∀ q, (p.1.m.ownBlock = some q ∨ p.1.t.ownBlock = some q) → q < wv6.heap.size) := fun p hp q hq => (((uh OSP).objs p hp).2.2.base q hq).2
    have hlg1 : w.heap.size ≤ g1 := ((uh OSP).objs _ (List.mem_of_getElem? (uh HK1))).1
    have LO7 : Hid (w.heap.size ≤ wv6.heap.size) := (uh BB).size
    go_wp2_with fail; clear Oc0_4 Oc1_4 Oc2_4 EO; clear LK
    refine (takeMails_any b1 m1 t1 g1 set vs _ _ _ (uh HOKA) hs ((uh OSP).objs _ (List.mem_of_getElem? (uh HK1))).2.1 ((uh OSP).objs _ (List.mem_of_getElem? (uh HK1))).2.2 (uh RS)).mono ?_
    rintro e wv7 ⟨rfl, ⟨m9, t9, hob, hox⟩, hg⟩
    have G1 := hide ((uh OSP).objs _ (List.mem_of_getElem? (uh HK1))).2.1
    have A_ := hide ((uh A).kept hg (fun e => obj_ne (uh A) (uh G1) (by decide) (Option.some.inj e)))
    have R_ := hide ((uh R).kept hg (fun e => obj_ne (uh R) (uh G1) (by decide) (Option.some.inj e)))
    have O_ := hide ((uh O).kept hg (fun e => obj_ne (uh O) (uh G1) (by decide) (Option.some.inj e)))
    have S1_ := hide ((uh S1).butB (GrownBut.of hg) (fun q hq1 hq2 => by have q1_ := uh NS q hq1; have q2_ := Option.some.inj hq2; omega))
    have BB_ : Hid (Below w.heap.size w wv7) := (uh BB).grown hg (uh BB).size (fun q hq => by have q2_ := Option.some.inj hq; omega)
    have sz7 := hide (hg.size); clear C OC RS; replace A := A_; clear A_; replace R := R_; clear R_; replace O := O_; clear O_; replace S1 := S1_; clear S1_; replace BB := BB_; clear BB_
    obtain ⟨c9, hc9⟩ : ∃ c9, c9 = (takeV b1 set).1 := ⟨_, rfl⟩
    rw [← hc9] at hob hox MV ⊢
    have NM9 : c9.name = src := by rw [hc9, take_name]; exact sameN_iff.1 (uh HS1)
    clear hc9
    by_cases hin : inSet set c9 = []
    ·rw [decide_eq_true hin]
     rw [if_pos hin] at MV
     have OBJ := hide (ObjsB.grew (y := (⟨c9, m9, t9⟩ : Lb)) (uh OSP).objs (uh OSP).apart (uh HK1) hg hob (hox.based (uh LO7)))
     have ROW : Hid (OwnPt w.heap.size wv7 (.slice aP P.length cP) ((P.set k1 ((⟨c9, m9, t9⟩ : Lb), g1)).map (·.2))) := by show OwnPt _ _ _ _; rw [blocks_set _ (uh HK1)]; exact g_aside (uh OSP).row hg (fun q hq e => by cases hq; exact (uh G1).not_row (by decide) (uh OSP).row e)
     have APS := hide (aside_set (y := (⟨c9, m9, t9⟩ : Lb)) (uh OSP).apart (uh HK1) (fun p hp => ⟨fun q h1 h2 => by have q1_ := uh PLT p hp q (.inl h1); have q2_ := (hox.base q (.inl h2)).1; omega, fun q h1 h2 => by have q1_ := uh PLT p hp q (.inr h1); have q2_ := (hox.base q (.inr h2)).1; omega⟩))
     have HPN : Hid ((P.set k1 ((⟨c9, m9, t9⟩ : Lb), g1)).map (·.1.b) = putX c9 z.boxes) := by show _ = _; rw [List.map_set, uh HPP, putX_at (uh HB1) (by rw [NM9]; exact uh HS1) (by rw [NM9]; exact uh HNO1)]
     clear hob hox hg OSP G1 NM9 hin; have Oc0_5 := (uh O).cell 0 rfl; have Oc1_5 := (uh O).cell 1 rfl; have Oc2_5 := (uh O).cell 2 rfl; go_wp2_with fail; clear Oc0_5 Oc1_5 Oc2_5
     refine (stored_any _ mbP z.valid _ (P.set k1 ((⟨c9, m9, t9⟩ : Lb), g1)) _ (by rw [List.length_set]; exact open_len (uh HPP) (uh FZ)) (uh ROW) (uh OBJ)).mono ?_
     rintro e wvy8 ⟨v9, rfl, o9, hb⟩
     obtain ⟨a9, d9, rfl⟩ := g_shape o9
     have OW_ := hide (own_of (uh OBJ) (uh APS) (uh HPN) o9 hb (uh BB).size); clear o9
     have NL : (List.map (fun x => x.1) (P.set k1 ((⟨c9, m9, t9⟩ : Lb), g1))).length = z.boxes.length := by rw [List.length_map, List.length_set, ← uh HPP, List.length_map]
     rw [NL] at OW_ ⊢
     clear NL S1; replace A := hide ((uh A).ups hb); replace R := hide ((uh R).ups hb); replace O := hide ((uh O).ups hb); have sz8 := hide (hb.size); replace BB := hide (below_y (uh BB) hb); clear hb; have OW := OW_; clear OW_; have Rf0 := (uh R).frozen 0; have Rf1 := (uh R).frozen 1; have Re0 := (uh R).cell 0 rfl; have Re1 := (uh R).cell 1 rfl; have F := hide (fill2 (uh R) (.slice a9 z.boxes.length d9) (.int .i64 z.valid))
     obtain ⟨U, hU⟩ : ∃ U, U = ((wvy8.setCell ⟨wv1.heap.size, 0, none⟩ (.slice a9 z.boxes.length d9)).setCell ⟨wv1.heap.size, 1, none⟩ (.int .i64 z.valid)) := ⟨_, rfl⟩
     have F9 := uh F
     rw [← hU] at F9
     have EU := hU.symm; clear F hU; have v0 := F9.obj.cell 0 rfl; have v1 := F9.obj.cell 1 rfl; have F := hide F9; clear F9
     go_wp2_with (refine bodyPost_ret (by simp [results, Tryz.results9, go_sem, v0, v1]; try rfl) rfl ?_)
     clear EU; have F := uh F
     rw [uh MV]
     exact ⟨_, rfl, (uh OW).filled F (by decide) (by decide) (by decide), F.below loR (uh BB)⟩
    ·rw [decide_eq_false hin]
     rw [if_neg hin] at MV
     clear hob hox hg OSP G1 NM9 hin
     have ANS : Hid (moveV s src set dst = (s, 3)) := uh MV
     have Ac0_5 := (uh A).cell 0 rfl; have Ac1_5 := (uh A).cell 1 rfl; go_wp2_with fail; clear Ac0_5 Ac1_5
     have LO9 : w.heap.size ≤ wv7.heap.size := (uh BB).size
     refine (copiedStore_any s _ _ _ (uh FT) ⟨L, uh HL, uh S1⟩).mono ?_
     rintro e wvn8 ⟨v9, rfl, o9, hb⟩
     obtain ⟨a9, c9, rfl⟩ := o9.shape
     have OW_ := hide (o9.based LO9); clear o9; replace A := hide ((uh A).ups hb); replace R := hide ((uh R).ups hb); replace O := hide ((uh O).ups hb); replace S1 := hide ((uh S1).up hb); have sz8 := hide (hb.size); replace BB := hide (below_y (uh BB) hb); clear hb; have OW := OW_; clear OW_; have Rf0 := (uh R).frozen 0; have Rf1 := (uh R).frozen 1; have Re0 := (uh R).cell 0 rfl; have Re1 := (uh R).cell 1 rfl; have F := hide (fill2 (uh R) (.slice a9 s.boxes.length c9) (.int .i64 s.valid))
     obtain ⟨U, hU⟩ : ∃ U, U = ((wvn8.setCell ⟨wv1.heap.size, 0, none⟩ (.slice a9 s.boxes.length c9)).setCell ⟨wv1.heap.size, 1, none⟩ (.int .i64 s.valid)) := ⟨_, rfl⟩
     have F9 := uh F
     rw [← hU] at F9
     have EU := hU.symm; clear F hU; have v0 := F9.obj.cell 0 rfl; have v1 := F9.obj.cell 1 rfl; have F := hide F9; clear F9
     go_wp2_with (refine bodyPost_ret (by simp [results, Tryz.results9, go_sem, v0, v1]; try rfl) rfl ?_)
     clear EU; have F := uh F
     rw [uh ANS]
     exact ⟨_, rfl, (uh OW).filled F (by decide) (by decide) (by decide), F.below loR (uh BB)⟩
  ·have d0 : (code == 0) = false := beq_eq_false_iff_ne.2 hc
   have CEN : ¬ (copyV s src set dst).2 = 0 := by rw [← congrArg Prod.snd (uh HZC)]; exact hc
   have ANS : Hid (moveV s src set dst = (z, code)) := by show _ = _; rw [moveV_code (uh HNE) CEN, ← congrArg Prod.snd (uh HZC), show z = s from (congrArg Prod.fst (uh HZC)).trans (copyV_same CEN)]
   clear hc CEN; have Cc0_3 := (uh C).cell 0 rfl; have Cc1_3 := (uh C).cell 1 rfl; have Rf0 := (uh R).frozen 0; have Rf1 := (uh R).frozen 1; have Re0 := (uh R).cell 0 rfl; have Re1 := (uh R).cell 1 rfl; have F := hide (fill2 (uh R) (.slice aC z.boxes.length cC) (.int .i64 z.valid))
   obtain ⟨U, hU⟩ : ∃ U, U = ((wv4.setCell ⟨wv1.heap.size, 0, none⟩ (.slice aC z.boxes.length cC)).setCell ⟨wv1.heap.size, 1, none⟩ (.int .i64 z.valid)) := ⟨_, rfl⟩
   have F9 := uh F
   rw [← hU] at F9
   have EU := hU.symm; clear F hU; have v0 := F9.obj.cell 0 rfl; have v1 := F9.obj.cell 1 rfl; have F := hide F9; clear F9
   go_wp2_with (refine bodyPost_ret (by simp [results, Tryz.results9, go_sem, v0, v1]; try rfl) rfl ?_)
   clear EU; have F := uh F
   rw [uh ANS]
   exact ⟨_, rfl, (uh OC).filled F (by decide) (by decide) (by decide), F.below loR (uh BB)⟩
end Go.Proofs.YtecognggnbopaacGreat
