/- The walk of FnExactTakeLine. Made by gen_takelaw.py. -/
import Derived.Test.YtgdndjpiiahljaaTv
import Derived.Test.YtgdndjpiiahljaaTkI
import Derived.Test.YtgdndjpiiahljaaTkS
import Derived.Test.YtgdndjpiiahljaaSeenMarks
namespace Go.Proofs.Ytgdndjpiiahljaa
open Go.RowKit Go.ChangeShapes Go.WideShapes Go.ChangeAt Go.Deep
open Plain
set_option linter.unusedVariables false
set_option linter.unusedSimpArgs false

namespace Plain
theorem takeL_most (l : List Sn) (k n u f m : Int) (h : l.length ≤ 1048576) : (takeL l k n u f m).length ≤ 1048576 := by
 unfold takeL inI
 repeat' split
 all_goals (try simp at *)
 all_goals omega
end Plain
theorem open_seens {H : Type} {enc : TypeId × Value → H} {W : World} {base : Nat} {v : Value} {d : DataW H} {ps : List MemPlace} (hval : Value.okWide Try.prog W .any base 44 v)
  (h : DataW.Trod enc Try.prog W 0 (fun _ => true) true 44 v d ps) :
  ∃ (a : Option Addr) (cap : Nat) (l : List Sn), v = .slice a l.length cap ∧ l.length ≤ maxLen ∧ ArgSn W.heap.size W a l := by
 obtain ⟨va, vn, vc, rfl⟩ := okWide_slice Try.underlying44 hval
 obtain ⟨fuel, hf⟩ := h
 obtain ⟨a, cap, l, hcs, hm, g⟩ := open_sn hf
 simp [Value.cells] at hcs
 obtain ⟨rfl, rfl, rfl⟩ := hcs
 exact ⟨_, _, l, rfl, hm, g⟩
theorem OwnSn.drew {B : Nat} {W : World} {v : Value} {l : List Sn} (h : OwnSn B W v l) : OwnSn B W.drew v l := h
theorem OwnR.drew {B : Nat} {W : World} {v : Value} {l : List Rg} (h : OwnR B W v l) : OwnR B W.drew v l := h
set_option maxHeartbeats 4000000 in
set_option maxRecDepth 100000 in
theorem markLine_any (x : Ln) (v : Value) (B k0 : Nat) (w : World) (hs : x.set.length ≤ 1048576) (hk : k0 ≤ 100000000) (h : OwnR B w v x.set) :
  Calls Try.prog 21 #[lnV x v, .int .i64 (k0 : Int)] w fun e w' => e = .returned (.int .i64 ((k0 + x.set.length * 2 : Nat) : Int)) ∧ w.grownBy w' v.ownBlock := by
 obtain ⟨a, c, rfl⟩ := g_shape h
 have OR := hide h; clear h; have BB := hide (Below.refl w.heap.size w)
 obtain ⟨wk1, hA⟩ : ∃ X, X = w.alloc (.cells ([.int .i64 x.kind, .int .i64 x.num, .int .i64 x.uid, .int .i64 x.flags, .int .i64 x.mod, .slice a x.set.length c, .bool x.all] : List Value).toArray 27) := ⟨_, rfl⟩
 have Ax : HasObj wk1 w.heap.size 27 [.int .i64 x.kind, .int .i64 x.num, .int .i64 x.uid, .int .i64 x.flags, .int .i64 x.mod, .slice a x.set.length c, .bool x.all] := by rw [hA]; exact HasObj.new _ _ _
 have hbn : Below w.heap.size w wk1 := by rw [hA]; exact (Below.refl _ _).alloc (Nat.le_refl _) _
 have loA : w.heap.size ≤ w.heap.size := (uh BB).size
 have EA := hA.symm; clear hA; have sz1 := hide (hbn.size); replace BB := hide (below_y (uh BB) hbn); clear hbn; have A := hide Ax; clear Ax
 have G0 : Hid (w.grownBy wk1 (Value.ownBlock (.slice a x.set.length c))) := by show World.grownBy _ _ _; rw [← EA]; exact World.grownBy_alloc w _ _
 have Ac0_1 := (uh A).cell 0 rfl; have Ac1_1 := (uh A).cell 1 rfl; have Ac2_1 := (uh A).cell 2 rfl; have Ac3_1 := (uh A).cell 3 rfl; have Ac4_1 := (uh A).cell 4 rfl; have Ac5_1 := (uh A).cell 5 rfl; have Ac6_1 := (uh A).cell 6 rfl
 go_enter Try.func21, Try.ntmps21
 go_wp2_with fail; clear Ac0_1 Ac1_1 Ac2_1 Ac3_1 Ac4_1 Ac5_1 Ac6_1 EA
 refine (markRangeS_any x.set _ B k0 _ hs hk ((uh OR).up (uh BB))).mono ?_
 rintro e w2 ⟨rfl, _, hg⟩
 have G1 := hide (g_join (uh G0) hg); clear hg G0
 go_wp2
 go_ret
 exact ⟨rfl, uh G1⟩
set_option maxHeartbeats 16000000 in
set_option maxRecDepth 100000 in
theorem FnExactTakeLine_walk (a0 : Option Addr) (cap0 : Nat) (l0 : List Sn) (x : Ln) (a : Option Addr) (c : Nat) (w : World) (m0 : l0.length ≤ maxLen) (h0 : ArgSn w.heap.size w a0 l0) (h : ArgLn w.heap.size w a x) :
  Calls Try.prog 5 #[.slice a0 l0.length cap0, .agg #[.int .i64 x.kind, .int .i64 x.num, .int .i64 x.uid, .int .i64 x.flags, .int .i64 x.mod, .slice a x.set.length c, .bool x.all]] w fun e w' => e = .returned (.bool true) ∧ Below w.heap.size w w' := by
 have HA := hide h; have H0 := hide h0; clear h h0; have BB := hide (Below.refl w.heap.size w)
 obtain ⟨wl1, hA⟩ : ∃ X, X = w.alloc (.cells ([.int .i64 x.kind, .int .i64 x.num, .int .i64 x.uid, .int .i64 x.flags, .int .i64 x.mod, .slice a x.set.length c, .bool x.all] : List Value).toArray 38) := ⟨_, rfl⟩
 have Ax : HasObj wl1 w.heap.size 38 [.int .i64 x.kind, .int .i64 x.num, .int .i64 x.uid, .int .i64 x.flags, .int .i64 x.mod, .slice a x.set.length c, .bool x.all] := by rw [hA]; exact HasObj.new _ _ _
 have hbn : Below w.heap.size w wl1 := by rw [hA]; exact (Below.refl _ _).alloc (Nat.le_refl _) _
 have loA : w.heap.size ≤ w.heap.size := (uh BB).size
 have EA := hA.symm; clear hA; have sz1 := hide (hbn.size); replace BB := hide (below_y (uh BB) hbn); clear hbn; have A := hide Ax; clear Ax; have Ac0_1 := (uh A).cell 0 rfl; have Ac1_1 := (uh A).cell 1 rfl; have Ac2_1 := (uh A).cell 2 rfl; have Ac3_1 := (uh A).cell 3 rfl; have Ac4_1 := (uh A).cell 4 rfl; have Ac5_1 := (uh A).cell 5 rfl; have Ac6_1 := (uh A).cell 6 rfl
 go_enter Try.func5, Try.ntmps5
 go_wp2_with fail; clear Ac0_1 Ac1_1 Ac2_1 Ac3_1 Ac4_1 Ac5_1 Ac6_1 EA
 refine (szSeenS_any a0 cap0 l0.length 1048576 _ (Nat.le_refl _) m0).mono ?_
 rintro e wz ⟨⟨m, rfl, hm⟩, hwz⟩
 subst wz
 rcases hm with rfl | ⟨q, rfl, hq, hl⟩
 ·go_wp2
  go_ret
  exact ⟨rfl, uh BB⟩
 ·have i1 : ¬ (q : Int) < 0 := by omega
  have HL := hide hl; clear hl m0; have Ac0_2 := (uh A).cell 0 rfl; have Ac1_2 := (uh A).cell 1 rfl; have Ac2_2 := (uh A).cell 2 rfl; have Ac3_2 := (uh A).cell 3 rfl; have Ac4_2 := (uh A).cell 4 rfl; have Ac5_2 := (uh A).cell 5 rfl; have Ac6_2 := (uh A).cell 6 rfl; go_wp2_with fail; clear Ac0_2 Ac1_2 Ac2_2 Ac3_2 Ac4_2 Ac5_2 Ac6_2
  refine (szLine_any x a c q _ _ rfl hq (uh HA).m).mono ?_
  rintro e wm2 ⟨⟨m, rfl, hm⟩, hb⟩
  replace A := hide ((uh A).ups hb); have sz2 := hide (hb.size); replace BB := hide (below_y (uh BB) hb); clear hb
  rcases hm with rfl | ⟨q2, rfl, hq2, hs⟩
  ·go_wp2
   go_ret
   exact ⟨rfl, uh BB⟩
  ·have i2 : ¬ (q2 : Int) < 0 := by omega
   have SM := hide hs; clear hs
   obtain ⟨T, hT⟩ : ∃ T, T = takeL l0 x.kind x.num x.uid x.flags x.mod := ⟨_, rfl⟩
   have HT : Hid (T.length ≤ 1048576) := by show _ ≤ _; rw [hT]; exact takeL_most _ _ _ _ _ _ (uh HL)
   have ET := hide hT; clear hT; have Ac0_3 := (uh A).cell 0 rfl; have Ac1_3 := (uh A).cell 1 rfl; have Ac2_3 := (uh A).cell 2 rfl; have Ac3_3 := (uh A).cell 3 rfl; have Ac4_3 := (uh A).cell 4 rfl; have Ac5_3 := (uh A).cell 5 rfl; have Ac6_3 := (uh A).cell 6 rfl
   go_wp2
   clear Ac0_3 Ac1_3 Ac2_3 Ac3_3 Ac4_3 Ac5_3 Ac6_3
   refine wp_region_held_drew (S := fun w' => w'.cell? ⟨w.heap.size, 0, none⟩ = some (.int .i64 x.kind) ∧ w'.cell? ⟨w.heap.size, 1, none⟩ = some (.int .i64 x.num) ∧ w'.cell? ⟨w.heap.size, 2, none⟩ = some (.int .i64 x.uid) ∧ w'.cell? ⟨w.heap.size, 3, none⟩ = some (.int .i64 x.flags) ∧ w'.cell? ⟨w.heap.size, 4, none⟩ = some (.int .i64 x.mod) ∧ w'.cell? ⟨w.heap.size, 5, none⟩ = some (.slice a x.set.length c) ∧ w'.cell? ⟨w.heap.size, 6, none⟩ = some (.bool x.all)) (by kernel_rfl) (⟨(uh A).cell 0 rfl, (uh A).cell 1 rfl, (uh A).cell 2 rfl, (uh A).cell 3 rfl, (uh A).cell 4 rfl, (uh A).cell 5 rfl, (uh A).cell 6 rfl⟩) (fun hHeld => ?_)
   replace A := hide ((uh A).drew); replace BB := hide ((uh BB).drew)
   have sz3 : Hid (wm2.heap.size ≤ wm2.drew.heap.size) := Nat.le_refl _
   refine tv 0 24 ?_; refine tv 2 26 ?_
   refine wpAnyH_ready (rs := [1]) (by kernel_rfl) (by simp) ?_
   refine AllReadyH.cons rfl (fun K hK => ?_) AllReadyH.nil
   go_simp
   refine (toSeenS_any a0 cap0 l0 _ (uh HL) ((uh H0).up (uh BB))).mono ?_
   rintro e wn3 ⟨vL, rfl, oL, hb⟩
   obtain ⟨aLp, cLp, rfl⟩ := g_shape oL
   have QLp_ := hide (OwnSn.up oL (Below.refl _ _)); clear oL; replace A := hide ((uh A).ups hb); have sz4 := hide (hb.size); replace BB := hide (below_y (uh BB) hb); clear hb; go_wp2_with fail
   refine hK.out _ _ (⟨(uh A).cell 0 rfl, (uh A).cell 1 rfl, (uh A).cell 2 rfl, (uh A).cell 3 rfl, (uh A).cell 4 rfl, (uh A).cell 5 rfl, (uh A).cell 6 rfl⟩) (fun hHeld2 => ?_)
   clear hK K hHeld; have hHeld := hHeld2; clear hHeld2
   try simp only [Act.put, p1, p2, p3]
   have QLp := QLp_; clear QLp_
   refine wpAnyH_ready (rs := [3]) (by kernel_rfl) (by simp) ?_
   refine AllReadyH.cons rfl (fun K hK => ?_) AllReadyH.nil
   go_simp
   refine (toLine_any x a c _ (uh SM) ((uh HA).up (uh BB))).mono ?_
   rintro e wn4 ⟨vX, rfl, oX, hb⟩
   obtain ⟨aXp, cXp, rfl⟩ := g_shape oX
   clear oX; replace A := hide ((uh A).ups hb); replace QLp := hide ((uh QLp).up hb); have sz5 := hide (hb.size); replace BB := hide (below_y (uh BB) hb); clear hb; go_wp2_with fail
   refine hK.out _ _ (⟨(uh A).cell 0 rfl, (uh A).cell 1 rfl, (uh A).cell 2 rfl, (uh A).cell 3 rfl, (uh A).cell 4 rfl, (uh A).cell 5 rfl, (uh A).cell 6 rfl⟩) (fun hHeld2 => ?_)
   clear hK K hHeld; have hHeld := hHeld2; clear hHeld2
   try simp only [Act.put, p1, p2, p3]
   refine wpAnyH_ready (rs := [4]) (by kernel_rfl) (by simp) ?_
   refine AllReadyH.cons rfl (fun K hK => ?_) AllReadyH.nil
   go_simp
   refine (spec_TakeLine_any l0 _ x _ _ _ _ _ (uh HL) (uh QLp)).mono ?_
   rintro e wn5 ⟨vT, rfl, oT, hb⟩
   obtain ⟨aOW, cOW, hv⟩ := g_shape oT
   rw [← uh ET] at oT hv
   subst hv
   have OW_ := hide oT; clear oT; replace A := hide ((uh A).ups hb); replace QLp := hide ((uh QLp).up hb); have sz6 := hide (hb.size); replace BB := hide (below_y (uh BB) hb); clear hb; go_wp2_with fail
   refine hK.out _ _ (⟨(uh A).cell 0 rfl, (uh A).cell 1 rfl, (uh A).cell 2 rfl, (uh A).cell 3 rfl, (uh A).cell 4 rfl, (uh A).cell 5 rfl, (uh A).cell 6 rfl⟩) (fun hHeld2 => ?_)
   clear hK K hHeld; have hHeld := hHeld2; clear hHeld2
   try simp only [Act.put, p1, p2, p3]
   have OW := OW_; clear OW_
   refine tv 5 6 ?_
   refine wpAnyH_done (by kernel_rfl) ?_ _
   clear QLp
   have LZ : w.heap.size ≤ wn5.heap.size := (uh BB).size
   have NW : Hid (∀ y, Value.ownBlock (.slice aOW T.length cOW) = some y → y < wn5.heap.size) := fun y hy => (World.ownsRow.lt (uh OW) y hy).2
   have Ac0_4 := (uh A).cell 0 rfl; have Ac1_4 := (uh A).cell 1 rfl; have Ac2_4 := (uh A).cell 2 rfl; have Ac3_4 := (uh A).cell 3 rfl; have Ac4_4 := (uh A).cell 4 rfl; have Ac5_4 := (uh A).cell 5 rfl; have Ac6_4 := (uh A).cell 6 rfl; go_wp2_with fail; clear Ac0_4 Ac1_4 Ac2_4 Ac3_4 Ac4_4 Ac5_4 Ac6_4
   refine (toSeenS_any a0 cap0 l0 _ (uh HL) ((uh H0).up (uh BB))).mono ?_
   rintro e wn6 ⟨vOZ, rfl, oOZ, hb⟩
   obtain ⟨aOZ, cOZ, rfl⟩ := g_shape oOZ
   have OZ_ := hide oOZ; clear oOZ; replace A := hide ((uh A).ups hb); replace OW := hide ((uh OW).up hb); have sz7 := hide (hb.size); replace BB := hide (below_y (uh BB) hb); clear hb; have OZ := OZ_; clear OZ_
   have LX : w.heap.size ≤ wn6.heap.size := (uh BB).size
   have Ac0_5 := (uh A).cell 0 rfl; have Ac1_5 := (uh A).cell 1 rfl; have Ac2_5 := (uh A).cell 2 rfl; have Ac3_5 := (uh A).cell 3 rfl; have Ac4_5 := (uh A).cell 4 rfl; have Ac5_5 := (uh A).cell 5 rfl; have Ac6_5 := (uh A).cell 6 rfl; go_wp2_with fail; clear Ac0_5 Ac1_5 Ac2_5 Ac3_5 Ac4_5 Ac5_5 Ac6_5
   refine (toLine_any x a c _ (uh SM) ((uh HA).up (uh BB))).mono ?_
   rintro e wn7 ⟨vX, rfl, oX, hb⟩
   obtain ⟨aX, cX, rfl⟩ := g_shape oX
   have OX_ := hide oX; clear oX; replace A := hide ((uh A).ups hb); replace OW := hide ((uh OW).up hb); replace OZ := hide ((uh OZ).up hb); have sz8 := hide (hb.size); replace BB := hide (below_y (uh BB) hb); clear hb; have OX := OX_; clear OX_
   obtain ⟨wn8, hX⟩ : ∃ X, X = wn7.alloc (.cells ([.int .i64 x.kind, .int .i64 x.num, .int .i64 x.uid, .int .i64 x.flags, .int .i64 x.mod, .slice aX x.set.length cX, .bool x.all] : List Value).toArray 27) := ⟨_, rfl⟩
   have Xx : HasObj wn8 wn7.heap.size 27 [.int .i64 x.kind, .int .i64 x.num, .int .i64 x.uid, .int .i64 x.flags, .int .i64 x.mod, .slice aX x.set.length cX, .bool x.all] := by rw [hX]; exact HasObj.new _ _ _
   have hbn : Below wn7.heap.size wn7 wn8 := by rw [hX]; exact (Below.refl _ _).alloc (Nat.le_refl _) _
   have neAX : w.heap.size ≠ wn7.heap.size := Nat.ne_of_lt (uh A).lt
   have loX : w.heap.size ≤ wn7.heap.size := (uh BB).size
   have EX := hX.symm; clear hX; replace A := hide ((uh A).ups hbn); replace OW := hide ((uh OW).up hbn); replace OZ := hide ((uh OZ).up hbn); replace OX := hide ((uh OX).up hbn); have sz9 := hide (hbn.size); replace BB := hide (below_y (uh BB) hbn); clear hbn; have X := hide Xx; clear Xx; have Xc0_6 := (uh X).cell 0 rfl; have Xc1_6 := (uh X).cell 1 rfl; have Xc2_6 := (uh X).cell 2 rfl; have Xc3_6 := (uh X).cell 3 rfl; have Xc4_6 := (uh X).cell 4 rfl; have Xc5_6 := (uh X).cell 5 rfl; have Xc6_6 := (uh X).cell 6 rfl
   have LG : w.heap.size ≤ wn8.heap.size := (uh BB).size
   have NZ : Hid (∀ y, Value.ownBlock (.slice aOZ l0.length cOZ) = some y → y < wn8.heap.size) := fun y hy => (World.ownsRow.lt (uh OZ) y hy).2
   have NW2 : Hid (∀ y, Value.ownBlock (.slice aOW T.length cOW) = some y → y < wn8.heap.size) := fun y hy => (World.ownsRow.lt (uh OW) y hy).2
   go_wp2_with fail; clear Xc0_6 Xc1_6 Xc2_6 Xc3_6 Xc4_6 Xc5_6 Xc6_6 EX
   refine (impl_TakeLine_any l0 _ x _ _ _ _ (uh HL) (OwnSn.wide (uh OZ))).mono ?_
   rintro e wn9 ⟨vG, rfl, oG, hb⟩
   obtain ⟨aG, cG, hv⟩ := g_shape oG
   rw [← uh ET] at oG hv
   subst hv
   have OG_ := hide oG; clear oG; replace A := hide ((uh A).ups hb); replace X := hide ((uh X).ups hb); replace OW := hide ((uh OW).up hb); replace OZ := hide ((uh OZ).up hb); replace OX := hide ((uh OX).up hb); have sz10 := hide (hb.size); replace BB := hide (below_y (uh BB) hb); clear hb; have OG := OG_; clear OG_; go_wp2_with fail
   refine (eqSeenS_same T _ _ _ _ _ (uh HT) (uh OG) (uh OW)).mono ?_
   rintro e wn10 ⟨rfl, hb⟩
   replace A := hide ((uh A).ups hb); replace X := hide ((uh X).ups hb); replace OW := hide ((uh OW).up hb); replace OZ := hide ((uh OZ).up hb); replace OX := hide ((uh OX).up hb); replace OG := hide ((uh OG).up hb); have sz11 := hide (hb.size); replace BB := hide (below_y (uh BB) hb); clear hb; go_wp2_with fail
   refine (toSeenS_any a0 cap0 l0 _ (uh HL) ((uh H0).up (uh BB))).mono ?_
   rintro e wn11 ⟨vOC, rfl, oOC, hb⟩
   obtain ⟨aOC, cOC, rfl⟩ := g_shape oOC
   have OC_ := hide oOC; clear oOC; replace A := hide ((uh A).ups hb); replace X := hide ((uh X).ups hb); replace OW := hide ((uh OW).up hb); replace OZ := hide ((uh OZ).up hb); replace OX := hide ((uh OX).up hb); replace OG := hide ((uh OG).up hb); have sz12 := hide (hb.size); replace BB := hide (below_y (uh BB) hb); clear hb; have OC := OC_; clear OC_; go_wp2_with fail
   refine (eqSeenS_same l0 _ _ _ _ _ (uh HL) (uh OZ) (uh OC)).mono ?_
   rintro e wn12 ⟨rfl, hb⟩
   replace A := hide ((uh A).ups hb); replace X := hide ((uh X).ups hb); replace OW := hide ((uh OW).up hb); replace OZ := hide ((uh OZ).up hb); replace OX := hide ((uh OX).up hb); replace OG := hide ((uh OG).up hb); replace OC := hide ((uh OC).up hb); have sz13 := hide (hb.size); replace BB := hide (below_y (uh BB) hb); clear hb; clear OC; have Ac0_7 := (uh A).cell 0 rfl; have Ac1_7 := (uh A).cell 1 rfl; have Ac2_7 := (uh A).cell 2 rfl; have Ac3_7 := (uh A).cell 3 rfl; have Ac4_7 := (uh A).cell 4 rfl; have Ac5_7 := (uh A).cell 5 rfl; have Ac6_7 := (uh A).cell 6 rfl; have Xc0_8 := (uh X).cell 0 rfl; have Xc1_8 := (uh X).cell 1 rfl; have Xc2_8 := (uh X).cell 2 rfl; have Xc3_8 := (uh X).cell 3 rfl; have Xc4_8 := (uh X).cell 4 rfl; have Xc5_8 := (uh X).cell 5 rfl; have Xc6_8 := (uh X).cell 6 rfl
   go_wp2
   clear Ac0_7 Ac1_7 Ac2_7 Ac3_7 Ac4_7 Ac5_7 Ac6_7 Xc0_8 Xc1_8 Xc2_8 Xc3_8 Xc4_8 Xc5_8 Xc6_8
   refine wp_region_held_drew (S := fun w' => w'.cell? ⟨wn7.heap.size, 0, none⟩ = some (.int .i64 x.kind) ∧ w'.cell? ⟨wn7.heap.size, 1, none⟩ = some (.int .i64 x.num) ∧ w'.cell? ⟨wn7.heap.size, 2, none⟩ = some (.int .i64 x.uid) ∧ w'.cell? ⟨wn7.heap.size, 3, none⟩ = some (.int .i64 x.flags) ∧ w'.cell? ⟨wn7.heap.size, 4, none⟩ = some (.int .i64 x.mod) ∧ w'.cell? ⟨wn7.heap.size, 5, none⟩ = some (.slice aX x.set.length cX) ∧ w'.cell? ⟨wn7.heap.size, 6, none⟩ = some (.bool x.all) ∧ w'.cell? ⟨w.heap.size, 0, none⟩ = some (.int .i64 x.kind) ∧ w'.cell? ⟨w.heap.size, 1, none⟩ = some (.int .i64 x.num) ∧ w'.cell? ⟨w.heap.size, 2, none⟩ = some (.int .i64 x.uid) ∧ w'.cell? ⟨w.heap.size, 3, none⟩ = some (.int .i64 x.flags) ∧ w'.cell? ⟨w.heap.size, 4, none⟩ = some (.int .i64 x.mod) ∧ w'.cell? ⟨w.heap.size, 5, none⟩ = some (.slice a x.set.length c) ∧ w'.cell? ⟨w.heap.size, 6, none⟩ = some (.bool x.all)) (by kernel_rfl) (⟨(uh X).cell 0 rfl, (uh X).cell 1 rfl, (uh X).cell 2 rfl, (uh X).cell 3 rfl, (uh X).cell 4 rfl, (uh X).cell 5 rfl, (uh X).cell 6 rfl, (uh A).cell 0 rfl, (uh A).cell 1 rfl, (uh A).cell 2 rfl, (uh A).cell 3 rfl, (uh A).cell 4 rfl, (uh A).cell 5 rfl, (uh A).cell 6 rfl⟩) (fun hHeld => ?_)
   replace A := hide ((uh A).drew); replace X := hide ((uh X).drew); replace OW := hide ((uh OW).drew); replace OZ := hide ((uh OZ).drew); replace OX := hide ((uh OX).drew); replace OG := hide ((uh OG).drew); replace BB := hide ((uh BB).drew)
   have sz14 : Hid (wn12.heap.size ≤ wn12.drew.heap.size) := Nat.le_refl _
   refine tv 0 45 ?_; refine tv 1 46 ?_
   refine wpAnyH_ready (rs := [2]) (by kernel_rfl) (by simp) ?_
   refine AllReadyH.cons rfl (fun K hK => ?_) AllReadyH.nil
   go_simp
   refine (toLine_any x a c _ (uh SM) ((uh HA).up (uh BB))).mono ?_
   rintro e wn13 ⟨vD, rfl, oD, hb⟩
   obtain ⟨aD, cD, rfl⟩ := g_shape oD
   have OD := hide oD; clear oD; replace A := hide ((uh A).ups hb); replace X := hide ((uh X).ups hb); replace OW := hide ((uh OW).up hb); replace OZ := hide ((uh OZ).up hb); replace OX := hide ((uh OX).up hb); replace OG := hide ((uh OG).up hb); have sz15 := hide (hb.size); replace BB := hide (below_y (uh BB) hb); clear hb; go_wp2_with fail
   refine hK.out _ _ (⟨(uh X).cell 0 rfl, (uh X).cell 1 rfl, (uh X).cell 2 rfl, (uh X).cell 3 rfl, (uh X).cell 4 rfl, (uh X).cell 5 rfl, (uh X).cell 6 rfl, (uh A).cell 0 rfl, (uh A).cell 1 rfl, (uh A).cell 2 rfl, (uh A).cell 3 rfl, (uh A).cell 4 rfl, (uh A).cell 5 rfl, (uh A).cell 6 rfl⟩) (fun hHeld2 => ?_)
   clear hK K hHeld; have hHeld := hHeld2; clear hHeld2
   try simp only [Act.put, p1, p2, p3]
   refine wpAnyH_ready (rs := [3]) (by kernel_rfl) (by simp) ?_
   refine AllReadyH.cons rfl (fun K hK => ?_) AllReadyH.nil
   go_simp
   refine (eqLine_same x _ _ _ _ _ (uh SM) (uh OX) (uh OD)).mono ?_
   rintro e wn14 ⟨rfl, hb⟩
   replace A := hide ((uh A).ups hb); replace X := hide ((uh X).ups hb); replace OW := hide ((uh OW).up hb); replace OZ := hide ((uh OZ).up hb); replace OX := hide ((uh OX).up hb); replace OG := hide ((uh OG).up hb); have sz16 := hide (hb.size); replace BB := hide (below_y (uh BB) hb); clear hb; go_wp2_with fail
   refine hK.out _ _ (⟨(uh X).cell 0 rfl, (uh X).cell 1 rfl, (uh X).cell 2 rfl, (uh X).cell 3 rfl, (uh X).cell 4 rfl, (uh X).cell 5 rfl, (uh X).cell 6 rfl, (uh A).cell 0 rfl, (uh A).cell 1 rfl, (uh A).cell 2 rfl, (uh A).cell 3 rfl, (uh A).cell 4 rfl, (uh A).cell 5 rfl, (uh A).cell 6 rfl⟩) (fun hHeld2 => ?_)
   clear hK K hHeld; have hHeld := hHeld2; clear hHeld2
   try simp only [Act.put, p1, p2, p3]
   refine tv 4 49 ?_
   refine wpAnyH_done (by kernel_rfl) ?_ _
   clear OD; have Xc0_9 := (uh X).cell 0 rfl; have Xc1_9 := (uh X).cell 1 rfl; have Xc2_9 := (uh X).cell 2 rfl; have Xc3_9 := (uh X).cell 3 rfl; have Xc4_9 := (uh X).cell 4 rfl; have Xc5_9 := (uh X).cell 5 rfl; have Xc6_9 := (uh X).cell 6 rfl; go_wp2_with fail; clear Xc0_9 Xc1_9 Xc2_9 Xc3_9 Xc4_9 Xc5_9 Xc6_9
   refine (markSeenS_any l0 _ _ 1 _ (uh HL) (Nat.le_refl _) (by decide) (uh OZ)).mono ?_
   rintro e wn15 ⟨rfl, om, hg⟩
   have A_ := hide ((uh A).kept hg (fun e => (uh A).not_row (by decide) (uh OZ) e.symm))
   have X_ := hide ((uh X).kept hg (fun e => (uh X).not_row (by decide) (uh OZ) e.symm))
   have OW_ : Hid (OwnSn wn4.heap.size wn15 (.slice aOW T.length cOW) (T)) := g_aside (uh OW) hg (fun y hy e => by have q1 := uh NW y e; have q2 := (World.ownsRow.lt (uh OZ) y hy).1; omega)
   have OX_ : Hid (OwnR wn6.heap.size wn15 (.slice aX x.set.length cX) (x.set)) := g_aside (uh OX) hg (fun y hy => rows_apart (uh OZ) (uh OX) (by decide) y hy)
   have OG_ : Hid (OwnSn wn8.heap.size wn15 (.slice aG T.length cG) (T)) := g_aside (uh OG) hg (fun y hy e => by have q1 := uh NZ y hy; have q2 := (World.ownsRow.lt (uh OG) y e).1; omega)
   have BB_ : Hid (Below w.heap.size w wn15) := (uh BB).grown hg (uh BB).size (fun y hy => by have q2_ := (World.ownsRow.lt (uh OZ) y hy).1; exact Nat.le_trans LZ q2_)
   replace A := A_; clear A_; replace X := X_; clear X_; replace OW := OW_; clear OW_; replace OX := OX_; clear OX_; replace OG := OG_; clear OG_; replace BB := BB_; clear BB_; clear OZ om hg
   have K1 : Hid (1 + l0.length * 3 ≤ 100000000) := by show _ ≤ _; have q_ := uh HL; omega
   obtain ⟨kk, hkk⟩ : ∃ z, z = 1 + l0.length * 3 := ⟨_, rfl⟩
   rw [← hkk] at K1 ⊢
   clear hkk; have Xc0_10 := (uh X).cell 0 rfl; have Xc1_10 := (uh X).cell 1 rfl; have Xc2_10 := (uh X).cell 2 rfl; have Xc3_10 := (uh X).cell 3 rfl; have Xc4_10 := (uh X).cell 4 rfl; have Xc5_10 := (uh X).cell 5 rfl; have Xc6_10 := (uh X).cell 6 rfl; go_wp2_with fail; clear Xc0_10 Xc1_10 Xc2_10 Xc3_10 Xc4_10 Xc5_10 Xc6_10
   refine (markLine_any x _ _ kk _ (uh SM) (uh K1) (uh OX)).mono ?_
   rintro e wn16 ⟨rfl, hg⟩
   have A_ := hide ((uh A).kept hg (fun e => (uh A).not_row (by decide) (uh OX) e.symm))
   have X_ := hide ((uh X).kept hg (fun e => (uh X).not_row (by decide) (uh OX) e.symm))
   have OW_ : Hid (OwnSn wn4.heap.size wn16 (.slice aOW T.length cOW) (T)) := g_aside (uh OW) hg (fun y hy => rows_apart (uh OX) (uh OW) (by decide) y hy)
   have OG_ : Hid (OwnSn wn8.heap.size wn16 (.slice aG T.length cG) (T)) := g_aside (uh OG) hg (fun y hy => rows_apart (uh OX) (uh OG) (by decide) y hy)
   have BB_ : Hid (Below w.heap.size w wn16) := (uh BB).grown hg (uh BB).size (fun y hy => by have q2_ := (World.ownsRow.lt (uh OX) y hy).1; exact Nat.le_trans LX q2_)
   replace A := A_; clear A_; replace X := X_; clear X_; replace OW := OW_; clear OW_; replace OG := OG_; clear OG_; replace BB := BB_; clear BB_; clear hg
   obtain ⟨k2, hk2⟩ : ∃ z, z = kk + x.set.length * 2 := ⟨_, rfl⟩
   rw [← hk2]
   clear hk2
   have i3 : ¬ (k2 : Int) < 0 := by omega
   clear OX; go_wp2_with fail
   refine (eqSeenS_same T _ _ _ _ _ (uh HT) (uh OG) (uh OW)).mono ?_
   rintro e wn17 ⟨rfl, hb⟩
   replace A := hide ((uh A).ups hb); replace X := hide ((uh X).ups hb); replace OW := hide ((uh OW).up hb); replace OG := hide ((uh OG).up hb); have sz17 := hide (hb.size); replace BB := hide (below_y (uh BB) hb); clear hb; go_wp2_with fail
   refine (markSeenS_any T _ _ 1 _ (uh HT) (Nat.le_refl _) (by decide) (uh OG)).mono ?_
   rintro e wn18 ⟨rfl, om, hg⟩
   have A_ := hide ((uh A).kept hg (fun e => (uh A).not_row (by decide) (uh OG) e.symm))
   have X_ := hide ((uh X).kept hg (fun e => (uh X).not_row (by decide) (uh OG) e.symm))
   have OW_ : Hid (OwnSn wn4.heap.size wn18 (.slice aOW T.length cOW) (T)) := g_aside (uh OW) hg (fun y hy e => by have q1 := uh NW2 y e; have q2 := (World.ownsRow.lt (uh OG) y hy).1; omega)
   have BB_ : Hid (Below w.heap.size w wn18) := (uh BB).grown hg (uh BB).size (fun y hy => by have q2_ := (World.ownsRow.lt (uh OG) y hy).1; exact Nat.le_trans LG q2_)
   replace A := A_; clear A_; replace X := X_; clear X_; replace OW := OW_; clear OW_; replace BB := BB_; clear BB_; clear OG; have OG := hide om; clear om hg
   obtain ⟨k3, hk3⟩ : ∃ z, z = 1 + T.length * 3 := ⟨_, rfl⟩
   rw [← hk3]
   have E3 := hide hk3; clear hk3
   have i4 : ¬ (k3 : Int) < 0 := by omega
   go_wp2_with fail
   refine (heldSeenS_any T.length _ _ 1 _ (uh HT) (Nat.le_refl _) (by decide) (uh OG)).mono ?_
   rintro e wn19 ⟨rfl, hb⟩
   replace A := hide ((uh A).ups hb); replace X := hide ((uh X).ups hb); replace OW := hide ((uh OW).up hb); replace OG := hide ((uh OG).up hb); have sz18 := hide (hb.size); replace BB := hide (below_y (uh BB) hb); clear hb
   rw [← uh E3]
   have Ac0_11 := (uh A).cell 0 rfl; have Ac1_11 := (uh A).cell 1 rfl; have Ac2_11 := (uh A).cell 2 rfl; have Ac3_11 := (uh A).cell 3 rfl; have Ac4_11 := (uh A).cell 4 rfl; have Ac5_11 := (uh A).cell 5 rfl; have Ac6_11 := (uh A).cell 6 rfl
   go_wp2
   clear Ac0_11 Ac1_11 Ac2_11 Ac3_11 Ac4_11 Ac5_11 Ac6_11
   refine wp_region_held_drew (S := fun w' => w'.cell? ⟨w.heap.size, 0, none⟩ = some (.int .i64 x.kind) ∧ w'.cell? ⟨w.heap.size, 1, none⟩ = some (.int .i64 x.num) ∧ w'.cell? ⟨w.heap.size, 2, none⟩ = some (.int .i64 x.uid) ∧ w'.cell? ⟨w.heap.size, 3, none⟩ = some (.int .i64 x.flags) ∧ w'.cell? ⟨w.heap.size, 4, none⟩ = some (.int .i64 x.mod) ∧ w'.cell? ⟨w.heap.size, 5, none⟩ = some (.slice a x.set.length c) ∧ w'.cell? ⟨w.heap.size, 6, none⟩ = some (.bool x.all)) (by kernel_rfl) (⟨(uh A).cell 0 rfl, (uh A).cell 1 rfl, (uh A).cell 2 rfl, (uh A).cell 3 rfl, (uh A).cell 4 rfl, (uh A).cell 5 rfl, (uh A).cell 6 rfl⟩) (fun hHeld => ?_)
   replace A := hide ((uh A).drew); replace X := hide ((uh X).drew); replace OW := hide ((uh OW).drew); replace OG := hide ((uh OG).drew); replace BB := hide ((uh BB).drew)
   have sz19 : Hid (wn19.heap.size ≤ wn19.drew.heap.size) := Nat.le_refl _
   refine tv 0 75 ?_; refine tv 2 77 ?_
   refine wpAnyH_ready (rs := [1]) (by kernel_rfl) (by simp) ?_
   refine AllReadyH.cons rfl (fun K hK => ?_) AllReadyH.nil
   go_simp
   refine (toSeenS_any a0 cap0 l0 _ (uh HL) ((uh H0).up (uh BB))).mono ?_
   rintro e wn20 ⟨vL, rfl, oL, hb⟩
   obtain ⟨aLq, cLq, rfl⟩ := g_shape oL
   have QLq_ := hide (OwnSn.up oL (Below.refl _ _)); clear oL; replace A := hide ((uh A).ups hb); replace X := hide ((uh X).ups hb); replace OW := hide ((uh OW).up hb); replace OG := hide ((uh OG).up hb); have sz20 := hide (hb.size); replace BB := hide (below_y (uh BB) hb); clear hb; go_wp2_with fail
   refine hK.out _ _ (⟨(uh A).cell 0 rfl, (uh A).cell 1 rfl, (uh A).cell 2 rfl, (uh A).cell 3 rfl, (uh A).cell 4 rfl, (uh A).cell 5 rfl, (uh A).cell 6 rfl⟩) (fun hHeld2 => ?_)
   clear hK K hHeld; have hHeld := hHeld2; clear hHeld2
   try simp only [Act.put, p1, p2, p3]
   have QLq := QLq_; clear QLq_
   refine wpAnyH_ready (rs := [3]) (by kernel_rfl) (by simp) ?_
   refine AllReadyH.cons rfl (fun K hK => ?_) AllReadyH.nil
   go_simp
   refine (toLine_any x a c _ (uh SM) ((uh HA).up (uh BB))).mono ?_
   rintro e wn21 ⟨vX, rfl, oX, hb⟩
   obtain ⟨aXq, cXq, rfl⟩ := g_shape oX
   clear oX; replace A := hide ((uh A).ups hb); replace X := hide ((uh X).ups hb); replace OW := hide ((uh OW).up hb); replace OG := hide ((uh OG).up hb); replace QLq := hide ((uh QLq).up hb); have sz21 := hide (hb.size); replace BB := hide (below_y (uh BB) hb); clear hb; go_wp2_with fail
   refine hK.out _ _ (⟨(uh A).cell 0 rfl, (uh A).cell 1 rfl, (uh A).cell 2 rfl, (uh A).cell 3 rfl, (uh A).cell 4 rfl, (uh A).cell 5 rfl, (uh A).cell 6 rfl⟩) (fun hHeld2 => ?_)
   clear hK K hHeld; have hHeld := hHeld2; clear hHeld2
   try simp only [Act.put, p1, p2, p3]
   refine wpAnyH_ready (rs := [4]) (by kernel_rfl) (by simp) ?_
   refine AllReadyH.cons rfl (fun K hK => ?_) AllReadyH.nil
   go_simp
   refine (impl_TakeLine_any l0 _ x _ _ _ _ (uh HL) (OwnSn.wide (uh QLq))).mono ?_
   rintro e wn22 ⟨vT, rfl, oT, hb⟩
   obtain ⟨aOH, cOH, hv⟩ := g_shape oT
   rw [← uh ET] at oT hv
   subst hv
   have OH_ := hide oT; clear oT; replace A := hide ((uh A).ups hb); replace X := hide ((uh X).ups hb); replace OW := hide ((uh OW).up hb); replace OG := hide ((uh OG).up hb); replace QLq := hide ((uh QLq).up hb); have sz22 := hide (hb.size); replace BB := hide (below_y (uh BB) hb); clear hb; go_wp2_with fail
   refine hK.out _ _ (⟨(uh A).cell 0 rfl, (uh A).cell 1 rfl, (uh A).cell 2 rfl, (uh A).cell 3 rfl, (uh A).cell 4 rfl, (uh A).cell 5 rfl, (uh A).cell 6 rfl⟩) (fun hHeld2 => ?_)
   clear hK K hHeld; have hHeld := hHeld2; clear hHeld2
   try simp only [Act.put, p1, p2, p3]
   have OH := OH_; clear OH_
   refine tv 5 13 ?_
   refine wpAnyH_done (by kernel_rfl) ?_ _
   clear QLq; go_wp2_with fail
   refine (eqSeenS_same T _ _ _ _ _ (uh HT) (uh OH) (uh OW)).mono ?_
   rintro e wn23 ⟨rfl, hb⟩
   replace A := hide ((uh A).ups hb); replace X := hide ((uh X).ups hb); replace OW := hide ((uh OW).up hb); replace OG := hide ((uh OG).up hb); replace OH := hide ((uh OH).up hb); have sz23 := hide (hb.size); replace BB := hide (below_y (uh BB) hb); clear hb; go_wp2_with fail
   refine (heldSeenS_any T.length _ _ 1 _ (uh HT) (Nat.le_refl _) (by decide) (uh OG)).mono ?_
   rintro e wn24 ⟨rfl, hb⟩
   replace A := hide ((uh A).ups hb); replace X := hide ((uh X).ups hb); replace OW := hide ((uh OW).up hb); replace OG := hide ((uh OG).up hb); replace OH := hide ((uh OH).up hb); have sz24 := hide (hb.size); replace BB := hide (below_y (uh BB) hb); clear hb
   rw [← uh E3]
   go_wp2
   go_ret
   exact ⟨rfl, uh BB⟩
end Go.Proofs.Ytgdndjpiiahljaa
