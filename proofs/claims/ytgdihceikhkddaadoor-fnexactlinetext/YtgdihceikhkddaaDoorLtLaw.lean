/- The walk of FnExactLineText. Made by gen_linetext.py. -/
import Derived.Test.YtgdihceikhkddaaDoorTv
import Derived.Test.YtgdihceikhkddaaDoorLtPlain
namespace Go.Proofs.YtgdihceikhkddaaDoor
open Go.RowKit Go.ChangeShapes Go.WideShapes Go.ChangeAt Go.Deep
open Plain
set_option linter.unusedVariables false
set_option linter.unusedSimpArgs false

theorem OwnR.drew {B : Nat} {W : World} {v : Value} {l : List Rg} (h : OwnR B W v l) : OwnR B W.drew v l := h
set_option maxHeartbeats 4000000 in
set_option maxRecDepth 100000 in
theorem FnExactLineText_walk (x : Ln) (a : Option Addr) (c : Nat) (w : World) (h : ArgLn w.heap.size w a x)
  (CI : ∀ (v : Value) (B : Nat) (W : World), x.set.length ≤ 1048576 → OwnR B W v x.set → Below w.heap.size w W → Calls Tryd.prog 7 #[lnV x v] W fun e w' => e = .returned (.tuple #[.string (ltV x).1, .bool (ltV x).2]) ∧ Below W.heap.size W w')
  (SI : ∀ (v : Value) (B : Nat) (W : World), x.set.length ≤ 1048576 → OwnR B W v x.set → Calls Tryd.prog 5 #[lnV x v] W fun e w' => e = .returned (.tuple #[.string (ltV x).1, .bool (ltV x).2]) ∧ Below W.heap.size W w') :
  Calls Tryd.prog 3 #[.agg #[.int .i64 x.kind, .int .i64 x.num, .int .i64 x.uid, .int .i64 x.flags, .int .i64 x.mod, .slice a x.set.length c, .bool x.all]] w fun e w' => e = .returned (.bool true) ∧ Below w.heap.size w w' := by
 obtain ⟨⟨ys, yb⟩, hY⟩ : ∃ Y, Y = ltV x := ⟨_, rfl⟩
 rw [← hY] at CI SI
 have HA := hide h; have CH := hide CI; have SH := hide SI; clear h CI SI hY; have BB := hide (Below.refl w.heap.size w)
 obtain ⟨wl1, hA⟩ : ∃ X, X = w.alloc (.cells ([.int .i64 x.kind, .int .i64 x.num, .int .i64 x.uid, .int .i64 x.flags, .int .i64 x.mod, .slice a x.set.length c, .bool x.all] : List Value).toArray 24) := ⟨_, rfl⟩
 have Ax : HasObj wl1 w.heap.size 24 [.int .i64 x.kind, .int .i64 x.num, .int .i64 x.uid, .int .i64 x.flags, .int .i64 x.mod, .slice a x.set.length c, .bool x.all] := by rw [hA]; exact HasObj.new _ _ _
 have hbn : Below w.heap.size w wl1 := by rw [hA]; exact (Below.refl _ _).alloc (Nat.le_refl _) _
 have loA : w.heap.size ≤ w.heap.size := (uh BB).size
 have EA := hA.symm; clear hA; have sz1 := hide (hbn.size); replace BB := hide (below_y (uh BB) hbn); clear hbn; have A := hide Ax; clear Ax; have Ac0_1 := (uh A).cell 0 rfl; have Ac1_1 := (uh A).cell 1 rfl; have Ac2_1 := (uh A).cell 2 rfl; have Ac3_1 := (uh A).cell 3 rfl; have Ac4_1 := (uh A).cell 4 rfl; have Ac5_1 := (uh A).cell 5 rfl; have Ac6_1 := (uh A).cell 6 rfl
 go_enter Tryd.func3, Tryd.ntmps3
 go_wp2_with fail; clear Ac0_1 Ac1_1 Ac2_1 Ac3_1 Ac4_1 Ac5_1 Ac6_1 EA
 refine (szLine_any x a c 1048576 _ _ rfl (Nat.le_refl _) (uh HA).m).mono ?_
 rintro e wl2 ⟨⟨m, rfl, hm⟩, hb⟩
 replace A := hide ((uh A).ups hb); have sz2 := hide (hb.size); replace BB := hide (below_y (uh BB) hb); clear hb
 rcases hm with rfl | ⟨q, rfl, hq, hs⟩
 ·go_wp2
  go_ret
  exact ⟨rfl, uh BB⟩
 ·have SM := hide hs
  have i1 : ¬ (q : Int) < 0 := by omega
  clear hs; have Ac0_2 := (uh A).cell 0 rfl; have Ac1_2 := (uh A).cell 1 rfl; have Ac2_2 := (uh A).cell 2 rfl; have Ac3_2 := (uh A).cell 3 rfl; have Ac4_2 := (uh A).cell 4 rfl; have Ac5_2 := (uh A).cell 5 rfl; have Ac6_2 := (uh A).cell 6 rfl; go_wp2_with fail; clear Ac0_2 Ac1_2 Ac2_2 Ac3_2 Ac4_2 Ac5_2 Ac6_2
  refine (toLine_any x a c _ (uh SM) ((uh HA).up (uh BB))).mono ?_
  rintro e wm3 ⟨vS, rfl, oS, hb⟩
  obtain ⟨aS, cS, rfl⟩ := g_shape oS
  have OS_ := hide oS; clear oS; replace A := hide ((uh A).ups hb); have sz3 := hide (hb.size); replace BB := hide (below_y (uh BB) hb); clear hb; have OS := OS_; clear OS_; go_wp2_with fail
  refine (uh SH _ _ _ (uh SM) (uh OS)).mono ?_
  rintro e wm4 ⟨rfl, hb⟩
  replace A := hide ((uh A).ups hb); replace OS := hide ((uh OS).up hb); have sz4 := hide (hb.size); replace BB := hide (below_y (uh BB) hb); clear hb; have Ac0_3 := (uh A).cell 0 rfl; have Ac1_3 := (uh A).cell 1 rfl; have Ac2_3 := (uh A).cell 2 rfl; have Ac3_3 := (uh A).cell 3 rfl; have Ac4_3 := (uh A).cell 4 rfl; have Ac5_3 := (uh A).cell 5 rfl; have Ac6_3 := (uh A).cell 6 rfl; go_wp2_with fail; clear Ac0_3 Ac1_3 Ac2_3 Ac3_3 Ac4_3 Ac5_3 Ac6_3
  refine (toLine_any x a c _ (uh SM) ((uh HA).up (uh BB))).mono ?_
  rintro e wm5 ⟨vX, rfl, oX, hb⟩
  obtain ⟨aX, cX, rfl⟩ := g_shape oX
  have OX_ := hide oX; clear oX; replace A := hide ((uh A).ups hb); replace OS := hide ((uh OS).up hb); have sz5 := hide (hb.size); replace BB := hide (below_y (uh BB) hb); clear hb; have OX := OX_; clear OX_
  obtain ⟨wm6, hX⟩ : ∃ X, X = wm5.alloc (.cells ([.int .i64 x.kind, .int .i64 x.num, .int .i64 x.uid, .int .i64 x.flags, .int .i64 x.mod, .slice aX x.set.length cX, .bool x.all] : List Value).toArray 30) := ⟨_, rfl⟩
  have Xx : HasObj wm6 wm5.heap.size 30 [.int .i64 x.kind, .int .i64 x.num, .int .i64 x.uid, .int .i64 x.flags, .int .i64 x.mod, .slice aX x.set.length cX, .bool x.all] := by rw [hX]; exact HasObj.new _ _ _
  have hbn : Below wm5.heap.size wm5 wm6 := by rw [hX]; exact (Below.refl _ _).alloc (Nat.le_refl _) _
  have neAX : w.heap.size ≠ wm5.heap.size := Nat.ne_of_lt (uh A).lt
  have loX : w.heap.size ≤ wm5.heap.size := (uh BB).size
  have EX := hX.symm; clear hX; replace A := hide ((uh A).ups hbn); replace OS := hide ((uh OS).up hbn); replace OX := hide ((uh OX).up hbn); have sz6 := hide (hbn.size); replace BB := hide (below_y (uh BB) hbn); clear hbn; have X := hide Xx; clear Xx; have Xc0_4 := (uh X).cell 0 rfl; have Xc1_4 := (uh X).cell 1 rfl; have Xc2_4 := (uh X).cell 2 rfl; have Xc3_4 := (uh X).cell 3 rfl; have Xc4_4 := (uh X).cell 4 rfl; have Xc5_4 := (uh X).cell 5 rfl; have Xc6_4 := (uh X).cell 6 rfl; go_wp2_with fail; clear Xc0_4 Xc1_4 Xc2_4 Xc3_4 Xc4_4 Xc5_4 Xc6_4 EX
  refine (uh CH _ _ _ (uh SM) (uh OX) (uh BB)).mono ?_
  rintro e wm7 ⟨rfl, hb⟩
  replace A := hide ((uh A).ups hb); replace X := hide ((uh X).ups hb); replace OS := hide ((uh OS).up hb); replace OX := hide ((uh OX).up hb); have sz7 := hide (hb.size); replace BB := hide (below_y (uh BB) hb); clear hb; have Ac0_5 := (uh A).cell 0 rfl; have Ac1_5 := (uh A).cell 1 rfl; have Ac2_5 := (uh A).cell 2 rfl; have Ac3_5 := (uh A).cell 3 rfl; have Ac4_5 := (uh A).cell 4 rfl; have Ac5_5 := (uh A).cell 5 rfl; have Ac6_5 := (uh A).cell 6 rfl; have Xc0_6 := (uh X).cell 0 rfl; have Xc1_6 := (uh X).cell 1 rfl; have Xc2_6 := (uh X).cell 2 rfl; have Xc3_6 := (uh X).cell 3 rfl; have Xc4_6 := (uh X).cell 4 rfl; have Xc5_6 := (uh X).cell 5 rfl; have Xc6_6 := (uh X).cell 6 rfl
  go_wp2
  clear Ac0_5 Ac1_5 Ac2_5 Ac3_5 Ac4_5 Ac5_5 Ac6_5 Xc0_6 Xc1_6 Xc2_6 Xc3_6 Xc4_6 Xc5_6 Xc6_6
  refine wp_region_held_drew (S := fun w' => w'.cell? ⟨wm5.heap.size, 0, none⟩ = some (.int .i64 x.kind) ∧ w'.cell? ⟨wm5.heap.size, 1, none⟩ = some (.int .i64 x.num) ∧ w'.cell? ⟨wm5.heap.size, 2, none⟩ = some (.int .i64 x.uid) ∧ w'.cell? ⟨wm5.heap.size, 3, none⟩ = some (.int .i64 x.flags) ∧ w'.cell? ⟨wm5.heap.size, 4, none⟩ = some (.int .i64 x.mod) ∧ w'.cell? ⟨wm5.heap.size, 5, none⟩ = some (.slice aX x.set.length cX) ∧ w'.cell? ⟨wm5.heap.size, 6, none⟩ = some (.bool x.all) ∧ w'.cell? ⟨w.heap.size, 0, none⟩ = some (.int .i64 x.kind) ∧ w'.cell? ⟨w.heap.size, 1, none⟩ = some (.int .i64 x.num) ∧ w'.cell? ⟨w.heap.size, 2, none⟩ = some (.int .i64 x.uid) ∧ w'.cell? ⟨w.heap.size, 3, none⟩ = some (.int .i64 x.flags) ∧ w'.cell? ⟨w.heap.size, 4, none⟩ = some (.int .i64 x.mod) ∧ w'.cell? ⟨w.heap.size, 5, none⟩ = some (.slice a x.set.length c) ∧ w'.cell? ⟨w.heap.size, 6, none⟩ = some (.bool x.all)) (by kernel_rfl) (⟨(uh X).cell 0 rfl, (uh X).cell 1 rfl, (uh X).cell 2 rfl, (uh X).cell 3 rfl, (uh X).cell 4 rfl, (uh X).cell 5 rfl, (uh X).cell 6 rfl, (uh A).cell 0 rfl, (uh A).cell 1 rfl, (uh A).cell 2 rfl, (uh A).cell 3 rfl, (uh A).cell 4 rfl, (uh A).cell 5 rfl, (uh A).cell 6 rfl⟩) (fun hHeld => ?_)
  replace A := hide ((uh A).drew); replace X := hide ((uh X).drew); replace OS := hide ((uh OS).drew); replace OX := hide ((uh OX).drew); replace BB := hide ((uh BB).drew)
  have sz8 : Hid (wm7.heap.size ≤ wm7.drew.heap.size) := Nat.le_refl _
  refine tv 0 35 ?_; refine tv 1 36 ?_
  refine wpAnyH_ready (rs := [2]) (by kernel_rfl) (by simp) ?_
  refine AllReadyH.cons rfl (fun K hK => ?_) AllReadyH.nil
  go_simp
  refine (toLine_any x a c _ (uh SM) ((uh HA).up (uh BB))).mono ?_
  rintro e wm8 ⟨vC, rfl, oC, hb⟩
  obtain ⟨aC, cC, rfl⟩ := g_shape oC
  have OC := hide oC; clear oC; replace A := hide ((uh A).ups hb); replace X := hide ((uh X).ups hb); replace OS := hide ((uh OS).up hb); replace OX := hide ((uh OX).up hb); have sz9 := hide (hb.size); replace BB := hide (below_y (uh BB) hb); clear hb; go_wp2_with fail
  refine hK.out _ _ (⟨(uh X).cell 0 rfl, (uh X).cell 1 rfl, (uh X).cell 2 rfl, (uh X).cell 3 rfl, (uh X).cell 4 rfl, (uh X).cell 5 rfl, (uh X).cell 6 rfl, (uh A).cell 0 rfl, (uh A).cell 1 rfl, (uh A).cell 2 rfl, (uh A).cell 3 rfl, (uh A).cell 4 rfl, (uh A).cell 5 rfl, (uh A).cell 6 rfl⟩) (fun hHeld2 => ?_)
  clear hK K hHeld; have hHeld := hHeld2; clear hHeld2
  try simp only [Act.put, p1, p2, p3]
  refine wpAnyH_ready (rs := [3]) (by kernel_rfl) (by simp) ?_
  refine AllReadyH.cons rfl (fun K hK => ?_) AllReadyH.nil
  go_simp
  refine (eqLine_same x _ _ _ _ _ (uh SM) (uh OX) (uh OC)).mono ?_
  rintro e wm9 ⟨rfl, hb⟩
  replace A := hide ((uh A).ups hb); replace X := hide ((uh X).ups hb); replace OS := hide ((uh OS).up hb); replace OX := hide ((uh OX).up hb); have sz10 := hide (hb.size); replace BB := hide (below_y (uh BB) hb); clear hb; go_wp2_with fail
  refine hK.out _ _ (⟨(uh X).cell 0 rfl, (uh X).cell 1 rfl, (uh X).cell 2 rfl, (uh X).cell 3 rfl, (uh X).cell 4 rfl, (uh X).cell 5 rfl, (uh X).cell 6 rfl, (uh A).cell 0 rfl, (uh A).cell 1 rfl, (uh A).cell 2 rfl, (uh A).cell 3 rfl, (uh A).cell 4 rfl, (uh A).cell 5 rfl, (uh A).cell 6 rfl⟩) (fun hHeld2 => ?_)
  clear hK K hHeld; have hHeld := hHeld2; clear hHeld2
  try simp only [Act.put, p1, p2, p3]
  refine tv 4 39 ?_
  refine wpAnyH_done (by kernel_rfl) ?_ _
  go_wp2
  go_ret
  exact ⟨rfl, uh BB⟩
end Go.Proofs.YtgdihceikhkddaaDoor
