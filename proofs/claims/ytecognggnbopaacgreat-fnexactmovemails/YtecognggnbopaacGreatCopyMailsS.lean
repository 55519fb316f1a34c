/- The specification's CopyMails. Made by gen_stores.py. -/
import Derived.Test.YtecognggnbopaacGreatTv
import Derived.Test.YtecognggnbopaacGreatStB
import Derived.Test.YtecognggnbopaacGreatStS
import Derived.Test.YtecognggnbopaacGreatSetA
import Derived.Deep.CutRange
namespace Go.Proofs.YtecognggnbopaacGreat
open Go.RowKit
open Plain
set_option linter.unusedVariables false
set_option linter.unusedSimpArgs false

theorem mail_cellsN {B g c n : Nat} {w : World} {l : List Ml} {k : Nat} {x : Ml} (hv : OwnMl B w (.slice (some ⟨g, 0, none⟩) n c) l) (hx : l[k]? = some x) : w.cell? ⟨g, k * 4, none⟩ = some (.int .i64 x.uid) ∧ w.cell? ⟨g, k * 4 + 1, none⟩ = some (.int .i64 x.flags) ∧ w.cell? ⟨g, k * 4 + 2, none⟩ = some (.int .i64 x.mod) ∧ w.cell? ⟨g, k * 4 + 3, none⟩ = some (.string x.text) := by
 obtain ⟨g', c', e, hg, c0, c1, c2, c3⟩ := ml_read hv (Below.refl _ _) hx
 have e1 := Option.some.inj (Value.slice.inj e).1
 have e2 : g = g' := by injection e1
 subst e2
 exact ⟨c0, c1, c2, c3⟩
namespace Plain
theorem atV_true {s : Sx} {n : ByteArray} {z : Bx} (h : (z, true) = atV s n) : boxAt s n = some z := by
 cases hb : boxAt s n with
 | none => rw [atV_none hb] at h; cases h
 | some b => rw [atV_some hb] at h; cases h; rfl
theorem atV_false {s : Sx} {n : ByteArray} {z : Bx} (h : (z, false) = atV s n) : boxAt s n = none := by
 cases hb : boxAt s n with
 | none => rfl
 | some b => rw [atV_some hb] at h; cases h
end Plain
theorem fillS_grown {W : World} {g : Nat} {u0 u1 u2 u3 u4 u5 u6 : Value} : W.grownBy (((((((W.setCell ⟨g, 0, none⟩ u0).setCell ⟨g, 1, none⟩ u1).setCell ⟨g, 2, none⟩ u2).setCell ⟨g, 3, none⟩ u3).setCell ⟨g, 4, none⟩ u4).setCell ⟨g, 5, none⟩ u5).setCell ⟨g, 6, none⟩ u6) (some g) := g_store (g_store (g_store (g_store (g_store (g_store (g_store (g_self _ _) _) _) _) _) _) _) _
theorem setOkS_held (l : List Rg) (v : Value) (B : Nat) (w : World) (hs : l.length ≤ 1048576) (h : OwnR B w v l) : Calls Tryz.prog 38 #[v] w fun e w' => e = .returned (.bool (okS l)) ∧ Below w.heap.size w w' :=
 (spec_SetOk_any l v w hs h.read).mono fun e w' ⟨h, q, hq⟩ => ⟨h, by rw [hq]; exact ⟨rfl, rfl, rfl, Nat.le_refl _, fun _ _ => rfl⟩⟩
theorem setHasS_held (l : List Rg) (n : Int) (v : Value) (B : Nat) (w : World) (hs : l.length ≤ 1048576) (h : OwnR B w v l) : Calls Tryz.prog 19 #[v, .int .i64 n] w fun e w' => e = .returned (.bool (hasB l n)) ∧ Below w.heap.size w w' :=
 (spec_SetHas_any l n v w hs h.read).mono fun e w' ⟨h, hw⟩ => ⟨h, by rw [hw]; exact Below.refl _ _⟩
set_option maxHeartbeats 16000000 in
set_option maxRecDepth 100000 in
theorem spec_CopyMails_any (s : Sx) (src dst : ByteArray) (set : List Rg) (v vs : Value) (B B2 : Nat) (w : World) (hf : FitSt s) (hs : set.length ≤ 1048576) (h : ReadSt B w v s.boxes) (h2 : OwnR B2 w vs set) :
  Calls Tryz.prog 17 #[.agg #[v, .int .i64 s.valid], .string src, vs, .string dst] w fun e w' => ∃ v', e = .returned (.tuple #[.agg #[v', .int .i64 (copyV s src set dst).1.valid], .int .i64 (copyV s src set dst).2]) ∧ ReadSt w.heap.size w' v' (copyV s src set dst).1.boxes ∧ Below w.heap.size w w' := by
 have FT := hide hf
 obtain ⟨L, hL, h⟩ := h
 obtain ⟨a1, c1, rfl⟩ := g_shape h.row
 obtain ⟨n, hn⟩ : ∃ n, n = s.boxes.length := ⟨_, rfl⟩
 have hn1 : L.length = n := by rw [hn, ← hL, List.length_map]
 have hnl := hf.len
 rw [← hn] at hnl
 have S1 := hide h
 rw [hn1] at S1 ⊢
 have FE := hide hf.each; have HL := hide hL; have HN := hide hn; have HN1 := hide hn1; clear h hL hn hn1 hf; have RS := hide h2; clear h2; have BB := hide (Below.refl w.heap.size w)
 obtain ⟨ws1, hA⟩ : ∃ X, X = w.alloc (.cells ([.slice a1 n c1, .int .i64 s.valid] : List Value).toArray 30) := ⟨_, rfl⟩
 have Ax : HasObj ws1 w.heap.size 30 [.slice a1 n c1, .int .i64 s.valid] := by rw [hA]; exact HasObj.new _ _ _
 have hbn : Below w.heap.size w ws1 := by rw [hA]; exact (Below.refl _ _).alloc (Nat.le_refl _) _
 have loA : w.heap.size ≤ w.heap.size := (uh BB).size
 have EA := hA.symm; clear hA; replace S1 := hide ((uh S1).up hbn); replace RS := hide ((uh RS).up hbn); have sz1 := hide (hbn.size); replace BB := hide (below_y (uh BB) hbn); clear hbn; have A := hide Ax; clear Ax
 obtain ⟨ws2, hR⟩ : ∃ X, X = ws1.alloc (.cells ([.slice none 0 0, .int .i64 0] : List Value).toArray 30) := ⟨_, rfl⟩
 have Rx : HasObj ws2 ws1.heap.size 30 [.slice none 0 0, .int .i64 0] := by rw [hR]; exact HasObj.new _ _ _
 have hbn : Below ws1.heap.size ws1 ws2 := by rw [hR]; exact (Below.refl _ _).alloc (Nat.le_refl _) _
 have neAR : w.heap.size ≠ ws1.heap.size := Nat.ne_of_lt (uh A).lt
 have loR : w.heap.size ≤ ws1.heap.size := (uh BB).size
 have ER := hR.symm; clear hR; replace A := hide ((uh A).ups hbn); replace S1 := hide ((uh S1).up hbn); replace RS := hide ((uh RS).up hbn); have sz2 := hide (hbn.size); replace BB := hide (below_y (uh BB) hbn); clear hbn; have R := hide Rx; clear Rx; have Ac0_1 := (uh A).cell 0 rfl; have Ac1_1 := (uh A).cell 1 rfl
 go_enter Tryz.func17, Tryz.ntmps17
 go_wp2_with fail; clear Ac0_1 Ac1_1 EA ER
 have LO : Hid (w.heap.size ≤ ws2.heap.size) := (uh BB).size
 refine (l09Copy_any s _ _ _ (uh FT) ⟨L, uh HL, uh S1⟩).mono ?_
 rintro e ws3 ⟨v9, rfl, oS, hb⟩
 obtain ⟨KL, hK, oK⟩ := oS
 obtain ⟨ak, ck, rfl⟩ := g_shape oK.row
 have hnK : KL.length = n := by rw [uh HN, ← hK, List.length_map]
 have SK_ := hide (oK.based (uh LO))
 rw [hnK] at SK_ ⊢
 have HK := hide hK; clear oK hK hnK; replace A := hide ((uh A).ups hb); replace R := hide ((uh R).ups hb); replace S1 := hide ((uh S1).up hb); replace RS := hide ((uh RS).up hb); have sz3 := hide (hb.size); replace BB := hide (below_y (uh BB) hb); clear hb; have SK := SK_; clear SK_
 obtain ⟨ws4, hS⟩ : ∃ X, X = ws3.alloc (.cells ([.slice ak n ck, .int .i64 s.valid] : List Value).toArray 30) := ⟨_, rfl⟩
 have Sx : HasObj ws4 ws3.heap.size 30 [.slice ak n ck, .int .i64 s.valid] := by rw [hS]; exact HasObj.new _ _ _
 have hbn : Below ws3.heap.size ws3 ws4 := by rw [hS]; exact (Below.refl _ _).alloc (Nat.le_refl _) _
 have neAS : w.heap.size ≠ ws3.heap.size := Nat.ne_of_lt (uh A).lt
 have neRS : ws1.heap.size ≠ ws3.heap.size := Nat.ne_of_lt (uh R).lt
 have loS : w.heap.size ≤ ws3.heap.size := (uh BB).size
 have ES := hS.symm; clear hS; replace A := hide ((uh A).ups hbn); replace R := hide ((uh R).ups hbn); replace S1 := hide ((uh S1).up hbn); replace RS := hide ((uh RS).up hbn); replace SK := hide ((uh SK).up hbn); have sz4 := hide (hbn.size); replace BB := hide (below_y (uh BB) hbn); clear hbn; have S := hide Sx; clear Sx; have Ac0_2 := (uh A).cell 0 rfl; have Ac1_2 := (uh A).cell 1 rfl; go_wp2_with fail; clear Ac0_2 Ac1_2 ES
 refine (spec_StoreOk_any s _ _ _ (uh FT) ⟨L, uh HL, uh S1⟩).mono ?_
 rintro e ws5 ⟨rfl, hb⟩
 replace A := hide ((uh A).ups hb); replace R := hide ((uh R).ups hb); replace S := hide ((uh S).ups hb); replace S1 := hide ((uh S1).up hb); replace RS := hide ((uh RS).up hb); replace SK := hide ((uh SK).up hb); have sz5 := hide (hb.size); replace BB := hide (below_y (uh BB) hb); clear hb
 cases h1 : storeOk s with
 | false =>
  have ANS : Hid (copyV s src set dst = (s, 4)) := copyV_bad1 h1
  have Sc0_3 := (uh S).cell 0 rfl; have Sc1_3 := (uh S).cell 1 rfl; have Rf0 := (uh R).frozen 0; have Rf1 := (uh R).frozen 1; have Re0 := (uh R).cell 0 rfl; have Re1 := (uh R).cell 1 rfl; have F := hide (fill2 (uh R) (.slice ak n ck) (.int .i64 s.valid))
  obtain ⟨U, hU⟩ : ∃ U, U = ((ws5.setCell ⟨ws1.heap.size, 0, none⟩ (.slice ak n ck)).setCell ⟨ws1.heap.size, 1, none⟩ (.int .i64 s.valid)) := ⟨_, rfl⟩
  have F9 := uh F
  rw [← hU] at F9
  have EU := hU.symm; clear F hU; have v0 := F9.obj.cell 0 rfl; have v1 := F9.obj.cell 1 rfl; have F := hide F9; clear F9
  go_wp2_with (refine bodyPost_ret (by simp [results, Tryz.results17, go_sem, v0, v1]; try rfl) rfl ?_)
  clear EU; have F := uh F
  rw [uh ANS]
  exact ⟨_, rfl, ⟨KL, uh HK, ⟨F.row (by decide) (uh SK).row, fun x hx => ⟨F.row (by decide) ((uh SK).each x hx).1, F.row (by decide) ((uh SK).each x hx).2⟩⟩⟩, F.below loR (uh BB)⟩
 | true =>
  go_wp2_with fail
  refine (setOkS_held set vs _ _ hs (uh RS)).mono ?_
  rintro e ws6 ⟨rfl, hb⟩
  replace A := hide ((uh A).ups hb); replace R := hide ((uh R).ups hb); replace S := hide ((uh S).ups hb); replace S1 := hide ((uh S1).up hb); replace RS := hide ((uh RS).up hb); replace SK := hide ((uh SK).up hb); have sz6 := hide (hb.size); replace BB := hide (below_y (uh BB) hb); clear hb
  cases h2 : okS set with
  | false =>
   have ANS : Hid (copyV s src set dst = (s, 4)) := copyV_bad2 h2
   have Sc0_3 := (uh S).cell 0 rfl; have Sc1_3 := (uh S).cell 1 rfl; have Rf0 := (uh R).frozen 0; have Rf1 := (uh R).frozen 1; have Re0 := (uh R).cell 0 rfl; have Re1 := (uh R).cell 1 rfl; have F := hide (fill2 (uh R) (.slice ak n ck) (.int .i64 s.valid))
   obtain ⟨U, hU⟩ : ∃ U, U = ((ws6.setCell ⟨ws1.heap.size, 0, none⟩ (.slice ak n ck)).setCell ⟨ws1.heap.size, 1, none⟩ (.int .i64 s.valid)) := ⟨_, rfl⟩
   have F9 := uh F
   rw [← hU] at F9
   have EU := hU.symm; clear F hU; have v0 := F9.obj.cell 0 rfl; have v1 := F9.obj.cell 1 rfl; have F := hide F9; clear F9
   go_wp2_with (refine bodyPost_ret (by simp [results, Tryz.results17, go_sem, v0, v1]; try rfl) rfl ?_)
   clear EU; have F := uh F
   rw [uh ANS]
   exact ⟨_, rfl, ⟨KL, uh HK, ⟨F.row (by decide) (uh SK).row, fun x hx => ⟨F.row (by decide) ((uh SK).each x hx).1, F.row (by decide) ((uh SK).each x hx).2⟩⟩⟩, F.below loR (uh BB)⟩
  | true =>
   have CV := hide (copyV_in (f := src) (n := dst) h1 h2); have RT := hide (right_st h1); clear h1 h2; have Ac0_3 := (uh A).cell 0 rfl; have Ac1_3 := (uh A).cell 1 rfl; go_wp2_with fail; clear Ac0_3 Ac1_3
   have LOX : Hid (w.heap.size ≤ ws6.heap.size) := (uh BB).size
   refine (spec_BoxAt_any s src _ _ _ (uh FT) ⟨L, uh HL, uh S1⟩).mono ?_
   rintro e ws7 ⟨mX, tX, rfl, oX, hb⟩
   obtain ⟨zX, okX, hzX⟩ : ∃ z ok, (z, ok) = atV s src := ⟨_, _, rfl⟩
   rw [← hzX] at oX ⊢
   simp only at oX ⊢
   have ATX := hide hzX
   obtain ⟨amX, cmX, rfl⟩ := g_shape oX.1
   obtain ⟨atX, ctX, rfl⟩ := g_shape oX.2
   have OX_ := hide (oX.based (uh LOX)); clear oX hzX; replace A := hide ((uh A).ups hb); replace R := hide ((uh R).ups hb); replace S := hide ((uh S).ups hb); replace S1 := hide ((uh S1).up hb); replace RS := hide ((uh RS).up hb); replace SK := hide ((uh SK).up hb); have sz7 := hide (hb.size); replace BB := hide (below_y (uh BB) hb); clear hb; have OX := OX_; clear OX_
   obtain ⟨ws8, hX⟩ : ∃ X, X = ws7.alloc (.cells ([.string zX.name, .int .i64 zX.valid, .int .i64 zX.next, .int .i64 zX.mod, .slice amX zX.mails.length cmX, .slice atX zX.tombs.length ctX, .int .i64 zX.hor] : List Value).toArray 46) := ⟨_, rfl⟩
   have Xx : HasObj ws8 ws7.heap.size 46 [.string zX.name, .int .i64 zX.valid, .int .i64 zX.next, .int .i64 zX.mod, .slice amX zX.mails.length cmX, .slice atX zX.tombs.length ctX, .int .i64 zX.hor] := by rw [hX]; exact HasObj.new _ _ _
   have hbn : Below ws7.heap.size ws7 ws8 := by rw [hX]; exact (Below.refl _ _).alloc (Nat.le_refl _) _
   have neAX : w.heap.size ≠ ws7.heap.size := Nat.ne_of_lt (uh A).lt
   have neRX : ws1.heap.size ≠ ws7.heap.size := Nat.ne_of_lt (uh R).lt
   have neSX : ws3.heap.size ≠ ws7.heap.size := Nat.ne_of_lt (uh S).lt
   have loX : w.heap.size ≤ ws7.heap.size := (uh BB).size
   have EX := hX.symm; clear hX; replace A := hide ((uh A).ups hbn); replace R := hide ((uh R).ups hbn); replace S := hide ((uh S).ups hbn); replace S1 := hide ((uh S1).up hbn); replace RS := hide ((uh RS).up hbn); replace SK := hide ((uh SK).up hbn); replace OX := hide ((uh OX).up hbn); have sz8 := hide (hbn.size); replace BB := hide (below_y (uh BB) hbn); clear hbn; have X := hide Xx; clear Xx; have Ac0_4 := (uh A).cell 0 rfl; have Ac1_4 := (uh A).cell 1 rfl; go_wp2_with fail; clear Ac0_4 Ac1_4 EX
   have LOY : Hid (w.heap.size ≤ ws8.heap.size) := (uh BB).size
   refine (spec_BoxAt_any s dst _ _ _ (uh FT) ⟨L, uh HL, uh S1⟩).mono ?_
   rintro e ws9 ⟨mY, tY, rfl, oY, hb⟩
   obtain ⟨zY, okY, hzY⟩ : ∃ z ok, (z, ok) = atV s dst := ⟨_, _, rfl⟩
   rw [← hzY] at oY ⊢
   simp only at oY ⊢
   have ATY := hide hzY
   obtain ⟨amY, cmY, rfl⟩ := g_shape oY.1
   obtain ⟨atY, ctY, rfl⟩ := g_shape oY.2
   have OY_ := hide (oY.based (uh LOY)); clear oY hzY; replace A := hide ((uh A).ups hb); replace R := hide ((uh R).ups hb); replace S := hide ((uh S).ups hb); replace X := hide ((uh X).ups hb); replace S1 := hide ((uh S1).up hb); replace RS := hide ((uh RS).up hb); replace SK := hide ((uh SK).up hb); replace OX := hide ((uh OX).up hb); have sz9 := hide (hb.size); replace BB := hide (below_y (uh BB) hb); clear hb; have OY := OY_; clear OY_
   have NS : Hid (∀ q, (BlkBs (.slice a1 n c1) L q ∨ BlkBs (.slice ak n ck) KL q) → q < ws9.heap.size) := fun q hq => hq.elim (fun h => ((uh S1).base q h).2) (fun h => ((uh SK).base q h).2)
   obtain ⟨ws10, hY⟩ : ∃ X, X = ws9.alloc (.cells ([.string zY.name, .int .i64 zY.valid, .int .i64 zY.next, .int .i64 zY.mod, .slice amY zY.mails.length cmY, .slice atY zY.tombs.length ctY, .int .i64 zY.hor] : List Value).toArray 46) := ⟨_, rfl⟩
   have Yx : HasObj ws10 ws9.heap.size 46 [.string zY.name, .int .i64 zY.valid, .int .i64 zY.next, .int .i64 zY.mod, .slice amY zY.mails.length cmY, .slice atY zY.tombs.length ctY, .int .i64 zY.hor] := by rw [hY]; exact HasObj.new _ _ _
   have hbn : Below ws9.heap.size ws9 ws10 := by rw [hY]; exact (Below.refl _ _).alloc (Nat.le_refl _) _
   have neAY : w.heap.size ≠ ws9.heap.size := Nat.ne_of_lt (uh A).lt
   have neRY : ws1.heap.size ≠ ws9.heap.size := Nat.ne_of_lt (uh R).lt
   have neSY : ws3.heap.size ≠ ws9.heap.size := Nat.ne_of_lt (uh S).lt
   have neXY : ws7.heap.size ≠ ws9.heap.size := Nat.ne_of_lt (uh X).lt
   have loY : w.heap.size ≤ ws9.heap.size := (uh BB).size
   have EY := hY.symm; clear hY; replace A := hide ((uh A).ups hbn); replace R := hide ((uh R).ups hbn); replace S := hide ((uh S).ups hbn); replace X := hide ((uh X).ups hbn); replace S1 := hide ((uh S1).up hbn); replace RS := hide ((uh RS).up hbn); replace SK := hide ((uh SK).up hbn); replace OX := hide ((uh OX).up hbn); replace OY := hide ((uh OY).up hbn); have sz10 := hide (hbn.size); replace BB := hide (below_y (uh BB) hbn); clear hbn; have Y := hide Yx; clear Yx
   cases okX with
   | false =>
    have ANS : Hid (copyV s src set dst = (s, 1)) := by show _ = _; rw [uh CV, atV_false (uh ATX)]
    have Sc0_5 := (uh S).cell 0 rfl; have Sc1_5 := (uh S).cell 1 rfl; have Rf0 := (uh R).frozen 0; have Rf1 := (uh R).frozen 1; have Re0 := (uh R).cell 0 rfl; have Re1 := (uh R).cell 1 rfl; have F := hide (fill2 (uh R) (.slice ak n ck) (.int .i64 s.valid))
    obtain ⟨U, hU⟩ : ∃ U, U = ((ws10.setCell ⟨ws1.heap.size, 0, none⟩ (.slice ak n ck)).setCell ⟨ws1.heap.size, 1, none⟩ (.int .i64 s.valid)) := ⟨_, rfl⟩
    have F9 := uh F
    rw [← hU] at F9
    have EU := hU.symm; clear F hU; have v0 := F9.obj.cell 0 rfl; have v1 := F9.obj.cell 1 rfl; have F := hide F9; clear F9
    go_wp2_with (refine bodyPost_ret (by simp [results, Tryz.results17, go_sem, v0, v1]; try rfl) rfl ?_)
    clear EU; have F := uh F
    rw [uh ANS]
    exact ⟨_, rfl, ⟨KL, uh HK, ⟨F.row (by decide) (uh SK).row, fun x hx => ⟨F.row (by decide) ((uh SK).each x hx).1, F.row (by decide) ((uh SK).each x hx).2⟩⟩⟩, F.below loR (uh BB)⟩
   | true =>
    cases okY with
    | false =>
     have ANS : Hid (copyV s src set dst = (s, 1)) := by show _ = _; rw [uh CV, atV_false (uh ATY)]; cases boxAt s src <;> rfl
     have Sc0_5 := (uh S).cell 0 rfl; have Sc1_5 := (uh S).cell 1 rfl; have Rf0 := (uh R).frozen 0; have Rf1 := (uh R).frozen 1; have Re0 := (uh R).cell 0 rfl; have Re1 := (uh R).cell 1 rfl; have F := hide (fill2 (uh R) (.slice ak n ck) (.int .i64 s.valid))
     obtain ⟨U, hU⟩ : ∃ U, U = ((ws10.setCell ⟨ws1.heap.size, 0, none⟩ (.slice ak n ck)).setCell ⟨ws1.heap.size, 1, none⟩ (.int .i64 s.valid)) := ⟨_, rfl⟩
     have F9 := uh F
     rw [← hU] at F9
     have EU := hU.symm; clear F hU; have v0 := F9.obj.cell 0 rfl; have v1 := F9.obj.cell 1 rfl; have F := hide F9; clear F9
     go_wp2_with (refine bodyPost_ret (by simp [results, Tryz.results17, go_sem, v0, v1]; try rfl) rfl ?_)
     clear EU; have F := uh F
     rw [uh ANS]
     exact ⟨_, rfl, ⟨KL, uh HK, ⟨F.row (by decide) (uh SK).row, fun x hx => ⟨F.row (by decide) ((uh SK).each x hx).1, F.row (by decide) ((uh SK).each x hx).2⟩⟩⟩, F.below loR (uh BB)⟩
    | true =>
     have BX := hide (atV_true (uh ATX)); have BY := hide (atV_true (uh ATY)); have OKX := hide ((uh RT).each _ (boxAt_mem (uh BX)).1).1; have OKY := hide ((uh RT).each _ (boxAt_mem (uh BY)).1).1; have FX := hide (fit_ok (uh OKX)); have l30 := (head_parts (boxOk_iff.1 (uh OKX)).1).2.2.2.2.1
     obtain ⟨nx, hnx⟩ : ∃ nx, nx = zX.mails.length := ⟨_, rfl⟩
     have HNX := hide hnx
     rw [← hnx] at l30
     have OXM : Hid (OwnMl w.heap.size ws10 (.slice amX nx cmX) zX.mails) := by show OwnMl _ _ _ _; rw [hnx]; exact (uh OX).1
     have X2 : Hid (HasObj ws10 (ws7.heap.size) 46 [.string zX.name, .int .i64 zX.valid, .int .i64 zX.next, .int .i64 zX.mod, .slice amX nx cmX, .slice atX zX.tombs.length ctX, .int .i64 zX.hor]) := by show HasObj _ _ _ _; rw [hnx]; exact uh X
     clear X OX hnx; have X := X2; clear X2; have Xc0_5 := (uh X).cell 0 rfl; have Xc1_5 := (uh X).cell 1 rfl; have Xc2_5 := (uh X).cell 2 rfl; have Xc3_5 := (uh X).cell 3 rfl; have Xc4_5 := (uh X).cell 4 rfl; have Xc5_5 := (uh X).cell 5 rfl; have Xc6_5 := (uh X).cell 6 rfl
     go_wp2
     clear Xc0_5 Xc1_5 Xc2_5 Xc3_5 Xc4_5 Xc5_5 Xc6_5 EY
     obtain ⟨REL, HREL⟩ : ∃ REL : Value → World → Prop, Hid (REL = fun i wr => ∃ (k : Nat) (x : Lb), k ≤ nx ∧ i = .int .i64 k ∧ boxOk x.b = true ∧ addAll zY (inSet set zX) = addAll x.b ((zX.mails.drop k).filter fun m => hasB set m.uid) ∧ HasObj wr (w.heap.size) 30 [.slice a1 n c1, .int .i64 s.valid] ∧ HasObj wr (ws1.heap.size) 30 [.slice none 0 0, .int .i64 0] ∧ HasObj wr (ws3.heap.size) 30 [.slice ak n ck, .int .i64 s.valid] ∧ HasObj wr (ws7.heap.size) 46 [.string zX.name, .int .i64 zX.valid, .int .i64 zX.next, .int .i64 zX.mod, .slice amX nx cmX, .slice atX zX.tombs.length ctX, .int .i64 zX.hor] ∧ HasObj wr (ws9.heap.size) 46 (lbC x) ∧ OwnBx w.heap.size wr x.m x.t x.b ∧ OwnBs B wr (.slice a1 n c1) L ∧ OwnBs w.heap.size wr (.slice ak n ck) KL ∧ OwnMl w.heap.size wr (.slice amX nx cmX) zX.mails ∧ OwnR B2 wr vs set ∧ Below w.heap.size w wr) := ⟨_, rfl⟩
     go_loopw [15] (fun i wr => REL i wr) (fun i _ => nx - (intOf i).toNat)
     case atStart => rw [uh HREL]; exact ⟨0, ⟨zY, .slice amY zY.mails.length cmY, .slice atY zY.tombs.length ctY⟩, Nat.zero_le _, rfl, uh OKY, rfl, uh A, uh R, uh S, uh X, uh Y, uh OY, uh S1, uh SK, uh OXM, uh RS, uh BB⟩
     clear A R S X Y OY S1 SK OXM RS BB
     case round =>
      rw [uh HREL] at hrel
      obtain ⟨k, x, hk, rfl, hxk, hall, oA, oR, oS, oX, oY, ox, o1, ok_, om, ors, hbel⟩ := hrel
      obtain ⟨wo, hwo⟩ : ∃ wo, wo = wr := ⟨_, rfl⟩
      subst hwo
      obtain ⟨xb, xm, xt⟩ := x
      simp only at hxk hall ox
      obtain ⟨amx, cmx, rfl⟩ := g_shape ox.1
      obtain ⟨atx, ctx, rfl⟩ := g_shape ox.2
      have HXK := hide hxk; have HALL := hide hall; clear hxk hall
      by_cases hlt : k < nx
      ·have hkl : k < zX.mails.length := by rw [← uh HNX]; exact hlt
       have hgk : zX.mails[k]? = some zX.mails[k] := List.getElem?_eq_getElem hkl
       obtain ⟨gb, qb, e1, _, _, _, _, _⟩ := ml_read om (Below.refl _ _) hgk
       have e3 := (Value.slice.inj e1).1; clear e1
       subst e3
       have htx := (uh FX).texts _ (List.getElem_mem hkl); have DK := hide (show zX.mails.drop k = zX.mails[k] :: zX.mails.drop (k + 1) from List.drop_eq_getElem_cons hkl)
       have MC := hide (fun (W : World) (h : OwnMl w.heap.size W (.slice (some ⟨gb, 0, none⟩) nx cmX) zX.mails) => mail_cellsN h hgk)
       generalize zX.mails[k] = f at *
       clear hgk hkl; have A := hide oA; have R := hide oR; have S := hide oS; have X := hide oX; have Y := hide oY; have OY := hide ox; have S1 := hide o1; have SK := hide ok_; have OXM := hide om; have RS := hide ors; have BB := hide hbel; clear oA oR oS oX oY ox o1 ok_ om ors hbel
       have i1 : (0 : Int) ≤ (k : Int) := by omega
       have i2 : (k : Int) < (nx : Int) := by omega
       have Xc0_6 := (uh X).cell 0 rfl; have Xc1_6 := (uh X).cell 1 rfl; have Xc2_6 := (uh X).cell 2 rfl; have Xc3_6 := (uh X).cell 3 rfl; have Xc4_6 := (uh X).cell 4 rfl; have Xc5_6 := (uh X).cell 5 rfl; have Xc6_6 := (uh X).cell 6 rfl
       obtain ⟨c0, c1, c2, c3⟩ := uh MC _ (uh OXM)
       go_wp2_with fail; clear Xc0_6 Xc1_6 Xc2_6 Xc3_6 Xc4_6 Xc5_6 Xc6_6 c0 c1 c2 c3
       refine (setHasS_held set f.uid vs _ _ hs (uh RS)).mono ?_
       rintro e wsr1 ⟨rfl, hb⟩
       replace A := hide ((uh A).ups hb); replace R := hide ((uh R).ups hb); replace S := hide ((uh S).ups hb); replace X := hide ((uh X).ups hb); replace Y := hide ((uh Y).ups hb); replace OY := hide ((uh OY).up hb); replace S1 := hide ((uh S1).up hb); replace SK := hide ((uh SK).up hb); replace OXM := hide ((uh OXM).up hb); replace RS := hide ((uh RS).up hb); have sz101 := hide (hb.size); replace BB := hide (below_y (uh BB) hb); clear hb
       cases hd : hasB set f.uid with
       | false =>
        have NX : Hid (addAll zY (inSet set zX) = addAll xb ((zX.mails.drop (k + 1)).filter fun m => hasB set m.uid)) := by show _ = _; rw [uh HALL, uh DK, List.filter_cons_of_neg (p := fun (m : Ml) => hasB set m.uid) (by rw [hd]; decide)]
        clear hd
        go_wp2
        go_roundw
        case rel => rw [uh HREL]; exact ⟨k + 1, ⟨xb, .slice amx xb.mails.length cmx, .slice atx xb.tombs.length ctx⟩, by omega, by go_num, uh HXK, uh NX, uh A, uh R, uh S, uh X, uh Y, uh OY, uh S1, uh SK, uh OXM, uh RS, uh BB⟩
        case measure => simp [intOf]; omega
       | true =>
        have NX : Hid (addAll zY (inSet set zX) = addAll xb (f :: (zX.mails.drop (k + 1)).filter fun m => hasB set m.uid)) := by show _ = _; rw [uh HALL, uh DK, List.filter_cons_of_pos (p := fun (m : Ml) => hasB set m.uid) hd]
        clear hd; have FB := hide (fit_ok (uh HXK)); have h30 := (head_parts (boxOk_iff.1 (uh HXK)).1).2.2.2.2.1
        obtain ⟨z, uid, hz⟩ : ∃ z uid, (z, uid) = addV xb f.flags f.text := ⟨_, _, rfl⟩
        have HZ := hide hz; clear hz
        have hszW : Hid (w.heap.size ≤ wsr1.heap.size) := (uh BB).size
        have NSLT_S1 : Hid (∀ q, BlkBs (.slice a1 n c1) L q → q < wsr1.heap.size) := fun q h => Nat.lt_trans (uh NS q (.inl h)) (uh Y).lt
        have NSLT_SK : Hid (∀ q, BlkBs (.slice ak n ck) KL q → q < wsr1.heap.size) := fun q h => Nat.lt_trans (uh NS q (.inr h)) (uh Y).lt
        have Xc0_7 := (uh X).cell 0 rfl; have Xc1_7 := (uh X).cell 1 rfl; have Xc2_7 := (uh X).cell 2 rfl; have Xc3_7 := (uh X).cell 3 rfl; have Xc4_7 := (uh X).cell 4 rfl; have Xc5_7 := (uh X).cell 5 rfl; have Xc6_7 := (uh X).cell 6 rfl; have Yc0_8 := (uh Y).cell 0 rfl; have Yc1_8 := (uh Y).cell 1 rfl; have Yc2_8 := (uh Y).cell 2 rfl; have Yc3_8 := (uh Y).cell 3 rfl; have Yc4_8 := (uh Y).cell 4 rfl; have Yc5_8 := (uh Y).cell 5 rfl; have Yc6_8 := (uh Y).cell 6 rfl
        go_wp2
        clear Xc0_7 Xc1_7 Xc2_7 Xc3_7 Xc4_7 Xc5_7 Xc6_7 Yc0_8 Yc1_8 Yc2_8 Yc3_8 Yc4_8 Yc5_8 Yc6_8; have B0 := BB
        go_cut [16, 17] from 48 to 84 (fun s16 s17 wc => ∃ (amz atz : Option Addr) (cmz ctz : Nat) (bxN : Nat), s16 = .pointer (some ⟨bxN, 0, none⟩) ∧ s17 = .int .i64 uid ∧ OwnBx wsr1.heap.size wc (.slice amz z.mails.length cmz) (.slice atz z.tombs.length ctz) z ∧ HasObj wc bxN 46 [.string z.name, .int .i64 z.valid, .int .i64 z.next, .int .i64 z.mod, .slice amz z.mails.length cmz, .slice atz z.tombs.length ctz, .int .i64 z.hor] ∧ wsr1.heap.size ≤ bxN ∧ Below wsr1.heap.size wsr1 wc)
        case first =>
         clear BB; have BB := hide (Below.refl wsr1.heap.size wsr1)
         refine wp_region_held_drew (S := fun w' => w'.cell? ⟨ws9.heap.size, 0, none⟩ = some (.string xb.name) ∧ w'.cell? ⟨ws9.heap.size, 1, none⟩ = some (.int .i64 xb.valid) ∧ w'.cell? ⟨ws9.heap.size, 2, none⟩ = some (.int .i64 xb.next) ∧ w'.cell? ⟨ws9.heap.size, 3, none⟩ = some (.int .i64 xb.mod) ∧ w'.cell? ⟨ws9.heap.size, 4, none⟩ = some (.slice amx xb.mails.length cmx) ∧ w'.cell? ⟨ws9.heap.size, 5, none⟩ = some (.slice atx xb.tombs.length ctx) ∧ w'.cell? ⟨ws9.heap.size, 6, none⟩ = some (.int .i64 xb.hor) ∧ w'.cell? ⟨ws7.heap.size, 4, none⟩ = some (.slice (some ⟨gb, 0, none⟩) nx cmX) ∧ w'.cell? ⟨gb, k * 4 + 1, none⟩ = some (.int .i64 f.flags) ∧ w'.cell? ⟨gb, k * 4 + 3, none⟩ = some (.string f.text)) (by kernel_rfl) (⟨(uh Y).cell 0 rfl, (uh Y).cell 1 rfl, (uh Y).cell 2 rfl, (uh Y).cell 3 rfl, (uh Y).cell 4 rfl, (uh Y).cell 5 rfl, (uh Y).cell 6 rfl, (uh X).cell 4 rfl, (uh MC _ (uh OXM)).2.1, (uh MC _ (uh OXM)).2.2.2⟩) (fun hHeld => ?_)
         replace A := hide ((uh A).drew); replace R := hide ((uh R).drew); replace S := hide ((uh S).drew); replace X := hide ((uh X).drew); replace Y := hide ((uh Y).drew); replace OY := hide ((uh OY).drew); replace S1 := hide ((uh S1).drew); replace SK := hide ((uh SK).drew); replace OXM := hide ((uh OXM).drew); replace RS := hide ((uh RS).drew); replace BB := hide ((uh BB).drew)
         have sz102 : Hid (wsr1.heap.size ≤ wsr1.drew.heap.size) := Nat.le_refl _
         refine tv 0 65 ?_; refine tv 1 66 ?_; refine tv 2 67 ?_; refine tv 3 68 ?_; refine tv 4 69 ?_; refine tv 5 70 ?_; refine tv 6 71 ?_; refine tv 7 72 ?_; refine tv 8 73 ?_; refine tv 9 74 ?_; refine tv 10 75 ?_; refine tv 11 76 ?_; refine tv 12 77 ?_
         refine wpAnyH_ready (rs := [13, 17]) (by kernel_rfl) (by simp) ?_
         refine (AllReadyH.cons rfl (fun K hK => ?_) (AllReadyH.cons rfl (fun K hK => ?_) AllReadyH.nil))
         ·skip
          go_simp
          refine (spec_AddMail_any xb _ _ _ f.flags f.text _ (uh FB) (by omega) htx (uh OY)).mono ?_
          rintro e wsre2 ⟨mN, tN, rfl, oN, hb⟩
          rw [← uh HZ] at oN ⊢
          simp only at oN ⊢
          obtain ⟨amN, cmN, rfl⟩ := g_shape oN.1
          obtain ⟨atN, ctN, rfl⟩ := g_shape oN.2
          have ON_ : Hid (OwnBx wsr1.heap.size _ _ _ z) := oN.based (uh BB).size
          clear oN; replace A := hide ((uh A).ups hb); replace R := hide ((uh R).ups hb); replace S := hide ((uh S).ups hb); replace X := hide ((uh X).ups hb); replace Y := hide ((uh Y).ups hb); replace OY := hide ((uh OY).up hb); replace S1 := hide ((uh S1).up hb); replace SK := hide ((uh SK).up hb); replace OXM := hide ((uh OXM).up hb); replace RS := hide ((uh RS).up hb); have sz103 := hide (hb.size); replace BB := hide (below_y (uh BB) hb); clear hb; have ON := ON_; clear ON_; go_wp2_with fail
          refine hK.out _ _ (⟨(uh Y).cell 0 rfl, (uh Y).cell 1 rfl, (uh Y).cell 2 rfl, (uh Y).cell 3 rfl, (uh Y).cell 4 rfl, (uh Y).cell 5 rfl, (uh Y).cell 6 rfl, (uh X).cell 4 rfl, (uh MC _ (uh OXM)).2.1, (uh MC _ (uh OXM)).2.2.2⟩) (fun hHeld2 => ?_)
          clear hK K hHeld; have hHeld := hHeld2; clear hHeld2
          try simp only [Act.put, p1, p2, p3]
          refine tv 14 64 ?_; refine tv 15 79 ?_; refine tv 16 80 ?_
          refine wpAnyH_ready (rs := [17]) (by kernel_rfl) (by simp) ?_
          refine (AllReadyH.cons rfl (fun K hK => ?_) AllReadyH.nil)
          go_simp
          obtain ⟨wsre3, hX⟩ : ∃ X, X = (wsre2.alloc (.cells ([.string ⟨#[]⟩, .int .i64 0, .int .i64 0, .int .i64 0, .slice none 0 0, .slice none 0 0, .int .i64 0] : List Value).toArray 46)) := ⟨_, rfl⟩
          rw [← hX]
          have Nx : HasObj wsre3 wsre2.heap.size 46 [.string ⟨#[]⟩, .int .i64 0, .int .i64 0, .int .i64 0, .slice none 0 0, .slice none 0 0, .int .i64 0] := by rw [hX]; exact HasObj.new _ _ _
          have hbn : Below wsre2.heap.size wsre2 wsre3 := by rw [hX]; exact (Below.refl wsre2.heap.size wsre2).alloc (Nat.le_refl _) _
          clear hX
          have neAN : w.heap.size ≠ wsre2.heap.size := Nat.ne_of_lt (uh A).lt
          have neRN : ws1.heap.size ≠ wsre2.heap.size := Nat.ne_of_lt (uh R).lt
          have neSN : ws3.heap.size ≠ wsre2.heap.size := Nat.ne_of_lt (uh S).lt
          have neXN : ws7.heap.size ≠ wsre2.heap.size := Nat.ne_of_lt (uh X).lt
          have neYN : ws9.heap.size ≠ wsre2.heap.size := Nat.ne_of_lt (uh Y).lt
          have loN : wsr1.heap.size ≤ wsre2.heap.size := (uh BB).size
          replace A := hide ((uh A).ups hbn); replace R := hide ((uh R).ups hbn); replace S := hide ((uh S).ups hbn); replace X := hide ((uh X).ups hbn); replace Y := hide ((uh Y).ups hbn); replace OY := hide ((uh OY).up hbn); replace S1 := hide ((uh S1).up hbn); replace SK := hide ((uh SK).up hbn); replace OXM := hide ((uh OXM).up hbn); replace RS := hide ((uh RS).up hbn); replace ON := hide ((uh ON).up hbn); have sz104 := hide (hbn.size); replace BB := hide (below_y (uh BB) hbn); clear hbn; have N := hide Nx; clear Nx
          refine hK.out _ _ (⟨(uh Y).cell 0 rfl, (uh Y).cell 1 rfl, (uh Y).cell 2 rfl, (uh Y).cell 3 rfl, (uh Y).cell 4 rfl, (uh Y).cell 5 rfl, (uh Y).cell 6 rfl, (uh X).cell 4 rfl, (uh MC _ (uh OXM)).2.1, (uh MC _ (uh OXM)).2.2.2⟩) (fun hHeld2 => ?_)
          clear hK K hHeld; have hHeld := hHeld2; clear hHeld2
          try simp only [Act.put, p1, p2, p3]
          have Nf0 := (uh N).frozen 0; have Nf1 := (uh N).frozen 1; have Nf2 := (uh N).frozen 2; have Nf3 := (uh N).frozen 3; have Nf4 := (uh N).frozen 4; have Nf5 := (uh N).frozen 5; have Nf6 := (uh N).frozen 6; have Ne0 := (uh N).cell 0 rfl; have Ne1 := (uh N).cell 1 rfl; have Ne2 := (uh N).cell 2 rfl; have Ne3 := (uh N).cell 3 rfl; have Ne4 := (uh N).cell 4 rfl; have Ne5 := (uh N).cell 5 rfl; have Ne6 := (uh N).cell 6 rfl; have F_ := hide (fill7 (uh N) (.string z.name) (.int .i64 z.valid) (.int .i64 z.next) (.int .i64 z.mod) (.slice amN z.mails.length cmN) (.slice atN z.tombs.length ctN) (.int .i64 z.hor))
          refine wpAnyH_ready (rs := [18]) (by kernel_rfl) (by simp) ?_
          refine AllReadyH.cons rfl (fun K hK => ?_) AllReadyH.nil
          go_simp
          obtain ⟨wsre4, hU⟩ : ∃ U, U = (((((((wsre3.setCell ⟨wsre2.heap.size, 0, none⟩ (.string z.name)).setCell ⟨wsre2.heap.size, 1, none⟩ (.int .i64 z.valid)).setCell ⟨wsre2.heap.size, 2, none⟩ (.int .i64 z.next)).setCell ⟨wsre2.heap.size, 3, none⟩ (.int .i64 z.mod)).setCell ⟨wsre2.heap.size, 4, none⟩ (.slice amN z.mails.length cmN)).setCell ⟨wsre2.heap.size, 5, none⟩ (.slice atN z.tombs.length ctN)).setCell ⟨wsre2.heap.size, 6, none⟩ (.int .i64 z.hor)) := ⟨_, rfl⟩
          have GU_ : wsre3.grownBy wsre4 (some (wsre2.heap.size)) := by rw [hU]; exact g_store (g_store (g_store (g_store (g_store (g_store (g_store (g_self _ _) _) _) _) _) _) _) _
          have F := uh F_
          rw [← hU] at F ⊢
          clear hU F_; clear Nf0 Nf1 Nf2 Nf3 Nf4 Nf5 Nf6 Ne0 Ne1 Ne2 Ne3 Ne4 Ne5 Ne6; have A_ := hide (F.other neAN (uh A)); have R_ := hide (F.other neRN (uh R)); have S_ := hide (F.other neSN (uh S)); have X_ := hide (F.other neXN (uh X)); have Y_ := hide (F.other neYN (uh Y)); have N_ := hide (F.obj)
          have OY_ : Hid (OwnBx w.heap.size wsre4 (.slice amx xb.mails.length cmx) (.slice atx xb.tombs.length ctx) xb) := ⟨F.row (by decide) (uh OY).1, F.row (by decide) (uh OY).2⟩
          have S1_ : Hid (OwnBs B wsre4 (.slice a1 n c1) (L)) := (uh S1).butB (GrownBut.of GU_) (fun q h1 h2 => by have q1_ := uh NSLT_S1 q h1; have q2_ := Option.some.inj h2; have q3_ := loN; omega)
          have SK_ : Hid (OwnBs w.heap.size wsre4 (.slice ak n ck) (KL)) := (uh SK).butB (GrownBut.of GU_) (fun q h1 h2 => by have q1_ := uh NSLT_SK q h1; have q2_ := Option.some.inj h2; have q3_ := loN; omega)
          have OXM_ : Hid (OwnMl w.heap.size wsre4 (.slice (some ⟨gb, 0, none⟩) nx cmX) (zX.mails)) := F.row (by decide) (uh OXM)
          have RS_ : Hid (OwnR B2 wsre4 (vs) (set)) := F.row (by decide) (uh RS)
          have ON_ : Hid (OwnBx wsr1.heap.size wsre4 (.slice amN z.mails.length cmN) (.slice atN z.tombs.length ctN) z) := ⟨F.row (by decide) (uh ON).1, F.row (by decide) (uh ON).2⟩
          have BB_ : Hid (Below wsr1.heap.size wsr1 wsre4) := F.below loN (uh BB)
          have sz105 : Hid (wsre3.heap.size ≤ wsre4.heap.size) := by show _ ≤ _; rw [F.size]; exact Nat.le_refl _
          replace A := A_; clear A_; replace R := R_; clear R_; replace S := S_; clear S_; replace X := X_; clear X_; replace Y := Y_; clear Y_; replace N := N_; clear N_; replace OY := OY_; clear OY_; replace S1 := S1_; clear S1_; replace SK := SK_; clear SK_; replace OXM := OXM_; clear OXM_; replace RS := RS_; clear RS_; replace ON := ON_; clear ON_; replace BB := BB_; clear BB_; clear F
          refine hK.out _ _ (⟨(uh Y).cell 0 rfl, (uh Y).cell 1 rfl, (uh Y).cell 2 rfl, (uh Y).cell 3 rfl, (uh Y).cell 4 rfl, (uh Y).cell 5 rfl, (uh Y).cell 6 rfl, (uh X).cell 4 rfl, (uh MC _ (uh OXM)).2.1, (uh MC _ (uh OXM)).2.2.2⟩) (fun hHeld2 => ?_)
          clear hK K hHeld; have hHeld := hHeld2; clear hHeld2
          try simp only [Act.put, p1, p2, p3]
          refine tv 19 17 ?_
          refine wpAnyH_done (by kernel_rfl) ?_ _
          go_wp2
          go_meet
          case rel => exact ⟨_, _, _, _, _, rfl, rfl, uh ON, uh N, loN, uh BB⟩
         ·skip
          go_simp
          obtain ⟨wsre2, hX⟩ : ∃ X, X = (wsr1.alloc (.cells ([.string ⟨#[]⟩, .int .i64 0, .int .i64 0, .int .i64 0, .slice none 0 0, .slice none 0 0, .int .i64 0] : List Value).toArray 46)).drew := ⟨_, rfl⟩
          rw [← hX]
          have Nx : HasObj wsre2 wsr1.heap.size 46 [.string ⟨#[]⟩, .int .i64 0, .int .i64 0, .int .i64 0, .slice none 0 0, .slice none 0 0, .int .i64 0] := by rw [hX]; exact (HasObj.new _ _ _).drew
          have hbn : Below wsr1.drew.heap.size wsr1.drew wsre2 := by rw [hX]; exact (Below.refl wsr1.drew.heap.size wsr1.drew).alloc (Nat.le_refl _) _
          clear hX
          have neAN : w.heap.size ≠ wsr1.heap.size := Nat.ne_of_lt (uh A).lt
          have neRN : ws1.heap.size ≠ wsr1.heap.size := Nat.ne_of_lt (uh R).lt
          have neSN : ws3.heap.size ≠ wsr1.heap.size := Nat.ne_of_lt (uh S).lt
          have neXN : ws7.heap.size ≠ wsr1.heap.size := Nat.ne_of_lt (uh X).lt
          have neYN : ws9.heap.size ≠ wsr1.heap.size := Nat.ne_of_lt (uh Y).lt
          have loN : wsr1.heap.size ≤ wsr1.heap.size := (uh BB).size
          replace A := hide ((uh A).ups hbn); replace R := hide ((uh R).ups hbn); replace S := hide ((uh S).ups hbn); replace X := hide ((uh X).ups hbn); replace Y := hide ((uh Y).ups hbn); replace OY := hide ((uh OY).up hbn); replace S1 := hide ((uh S1).up hbn); replace SK := hide ((uh SK).up hbn); replace OXM := hide ((uh OXM).up hbn); replace RS := hide ((uh RS).up hbn); have sz103 := hide (hbn.size); replace BB := hide (below_y (uh BB) hbn); clear hbn; have N := hide Nx; clear Nx
          refine hK.out _ _ (⟨(uh Y).cell 0 rfl, (uh Y).cell 1 rfl, (uh Y).cell 2 rfl, (uh Y).cell 3 rfl, (uh Y).cell 4 rfl, (uh Y).cell 5 rfl, (uh Y).cell 6 rfl, (uh X).cell 4 rfl, (uh MC _ (uh OXM)).2.1, (uh MC _ (uh OXM)).2.2.2⟩) (fun hHeld2 => ?_)
          clear hK K hHeld; have hHeld := hHeld2; clear hHeld2
          try simp only [Act.put, p1, p2, p3]
          refine wpAnyH_ready (rs := [13]) (by kernel_rfl) (by simp) ?_
          refine (AllReadyH.cons rfl (fun K hK => ?_) AllReadyH.nil)
          go_simp
          refine (spec_AddMail_any xb _ _ _ f.flags f.text _ (uh FB) (by omega) htx (uh OY)).mono ?_
          rintro e wsre3 ⟨mN, tN, rfl, oN, hb⟩
          rw [← uh HZ] at oN ⊢
          simp only at oN ⊢
          obtain ⟨amN, cmN, rfl⟩ := g_shape oN.1
          obtain ⟨atN, ctN, rfl⟩ := g_shape oN.2
          have ON_ : Hid (OwnBx wsr1.heap.size _ _ _ z) := oN.based (uh BB).size
          clear oN; replace A := hide ((uh A).ups hb); replace R := hide ((uh R).ups hb); replace S := hide ((uh S).ups hb); replace X := hide ((uh X).ups hb); replace Y := hide ((uh Y).ups hb); replace N := hide ((uh N).ups hb); replace OY := hide ((uh OY).up hb); replace S1 := hide ((uh S1).up hb); replace SK := hide ((uh SK).up hb); replace OXM := hide ((uh OXM).up hb); replace RS := hide ((uh RS).up hb); have sz104 := hide (hb.size); replace BB := hide (below_y (uh BB) hb); clear hb; have ON := ON_; clear ON_; go_wp2_with fail
          refine hK.out _ _ (⟨(uh Y).cell 0 rfl, (uh Y).cell 1 rfl, (uh Y).cell 2 rfl, (uh Y).cell 3 rfl, (uh Y).cell 4 rfl, (uh Y).cell 5 rfl, (uh Y).cell 6 rfl, (uh X).cell 4 rfl, (uh MC _ (uh OXM)).2.1, (uh MC _ (uh OXM)).2.2.2⟩) (fun hHeld2 => ?_)
          clear hK K hHeld; have hHeld := hHeld2; clear hHeld2
          try simp only [Act.put, p1, p2, p3]
          refine tv 14 64 ?_; refine tv 15 79 ?_; refine tv 16 80 ?_
          have Nf0 := (uh N).frozen 0; have Nf1 := (uh N).frozen 1; have Nf2 := (uh N).frozen 2; have Nf3 := (uh N).frozen 3; have Nf4 := (uh N).frozen 4; have Nf5 := (uh N).frozen 5; have Nf6 := (uh N).frozen 6; have Ne0 := (uh N).cell 0 rfl; have Ne1 := (uh N).cell 1 rfl; have Ne2 := (uh N).cell 2 rfl; have Ne3 := (uh N).cell 3 rfl; have Ne4 := (uh N).cell 4 rfl; have Ne5 := (uh N).cell 5 rfl; have Ne6 := (uh N).cell 6 rfl; have F_ := hide (fill7 (uh N) (.string z.name) (.int .i64 z.valid) (.int .i64 z.next) (.int .i64 z.mod) (.slice amN z.mails.length cmN) (.slice atN z.tombs.length ctN) (.int .i64 z.hor))
          refine wpAnyH_ready (rs := [18]) (by kernel_rfl) (by simp) ?_
          refine AllReadyH.cons rfl (fun K hK => ?_) AllReadyH.nil
          go_simp
          obtain ⟨wsre4, hU⟩ : ∃ U, U = (((((((wsre3.setCell ⟨wsr1.heap.size, 0, none⟩ (.string z.name)).setCell ⟨wsr1.heap.size, 1, none⟩ (.int .i64 z.valid)).setCell ⟨wsr1.heap.size, 2, none⟩ (.int .i64 z.next)).setCell ⟨wsr1.heap.size, 3, none⟩ (.int .i64 z.mod)).setCell ⟨wsr1.heap.size, 4, none⟩ (.slice amN z.mails.length cmN)).setCell ⟨wsr1.heap.size, 5, none⟩ (.slice atN z.tombs.length ctN)).setCell ⟨wsr1.heap.size, 6, none⟩ (.int .i64 z.hor)) := ⟨_, rfl⟩
          have GU_ : wsre3.grownBy wsre4 (some (wsr1.heap.size)) := by rw [hU]; exact g_store (g_store (g_store (g_store (g_store (g_store (g_store (g_self _ _) _) _) _) _) _) _) _
          have F := uh F_
          rw [← hU] at F ⊢
          clear hU F_; clear Nf0 Nf1 Nf2 Nf3 Nf4 Nf5 Nf6 Ne0 Ne1 Ne2 Ne3 Ne4 Ne5 Ne6; have A_ := hide (F.other neAN (uh A)); have R_ := hide (F.other neRN (uh R)); have S_ := hide (F.other neSN (uh S)); have X_ := hide (F.other neXN (uh X)); have Y_ := hide (F.other neYN (uh Y)); have N_ := hide (F.obj)
          have OY_ : Hid (OwnBx w.heap.size wsre4 (.slice amx xb.mails.length cmx) (.slice atx xb.tombs.length ctx) xb) := ⟨F.row (by decide) (uh OY).1, F.row (by decide) (uh OY).2⟩
          have S1_ : Hid (OwnBs B wsre4 (.slice a1 n c1) (L)) := (uh S1).butB (GrownBut.of GU_) (fun q h1 h2 => by have q1_ := uh NSLT_S1 q h1; have q2_ := Option.some.inj h2; have q3_ := loN; omega)
          have SK_ : Hid (OwnBs w.heap.size wsre4 (.slice ak n ck) (KL)) := (uh SK).butB (GrownBut.of GU_) (fun q h1 h2 => by have q1_ := uh NSLT_SK q h1; have q2_ := Option.some.inj h2; have q3_ := loN; omega)
          have OXM_ : Hid (OwnMl w.heap.size wsre4 (.slice (some ⟨gb, 0, none⟩) nx cmX) (zX.mails)) := F.row (by decide) (uh OXM)
          have RS_ : Hid (OwnR B2 wsre4 (vs) (set)) := F.row (by decide) (uh RS)
          have ON_ : Hid (OwnBx wsr1.heap.size wsre4 (.slice amN z.mails.length cmN) (.slice atN z.tombs.length ctN) z) := ⟨F.row (by decide) (uh ON).1, F.row (by decide) (uh ON).2⟩
          have BB_ : Hid (Below wsr1.heap.size wsr1 wsre4) := F.below loN (uh BB)
          have sz105 : Hid (wsre3.heap.size ≤ wsre4.heap.size) := by show _ ≤ _; rw [F.size]; exact Nat.le_refl _
          replace A := A_; clear A_; replace R := R_; clear R_; replace S := S_; clear S_; replace X := X_; clear X_; replace Y := Y_; clear Y_; replace N := N_; clear N_; replace OY := OY_; clear OY_; replace S1 := S1_; clear S1_; replace SK := SK_; clear SK_; replace OXM := OXM_; clear OXM_; replace RS := RS_; clear RS_; replace ON := ON_; clear ON_; replace BB := BB_; clear BB_; clear F
          refine hK.out _ _ (⟨(uh Y).cell 0 rfl, (uh Y).cell 1 rfl, (uh Y).cell 2 rfl, (uh Y).cell 3 rfl, (uh Y).cell 4 rfl, (uh Y).cell 5 rfl, (uh Y).cell 6 rfl, (uh X).cell 4 rfl, (uh MC _ (uh OXM)).2.1, (uh MC _ (uh OXM)).2.2.2⟩) (fun hHeld2 => ?_)
          clear hK K hHeld; have hHeld := hHeld2; clear hHeld2
          try simp only [Act.put, p1, p2, p3]
          refine tv 19 17 ?_
          refine wpAnyH_done (by kernel_rfl) ?_ _
          go_wp2
          go_meet
          case rel => exact ⟨_, _, _, _, _, rfl, rfl, uh ON, uh N, loN, uh BB⟩
        case rest =>
         obtain ⟨amN, atN, cmN, ctN, bxN, rfl, rfl, oN, obN, hloN, hb⟩ := hcut
         obtain ⟨wsr2, rfl⟩ : ∃ x, x = wc := ⟨_, rfl⟩
         have neAN : w.heap.size ≠ bxN := Nat.ne_of_lt (Nat.lt_of_lt_of_le (uh A).lt hloN)
         have neRN : ws1.heap.size ≠ bxN := Nat.ne_of_lt (Nat.lt_of_lt_of_le (uh R).lt hloN)
         have neSN : ws3.heap.size ≠ bxN := Nat.ne_of_lt (Nat.lt_of_lt_of_le (uh S).lt hloN)
         have neXN : ws7.heap.size ≠ bxN := Nat.ne_of_lt (Nat.lt_of_lt_of_le (uh X).lt hloN)
         have neYN : ws9.heap.size ≠ bxN := Nat.ne_of_lt (Nat.lt_of_lt_of_le (uh Y).lt hloN)
         have loN : w.heap.size ≤ bxN := Nat.le_trans (uh BB).size hloN
         clear B0; replace A := hide ((uh A).ups hb); replace R := hide ((uh R).ups hb); replace S := hide ((uh S).ups hb); replace X := hide ((uh X).ups hb); replace Y := hide ((uh Y).ups hb); replace OY := hide ((uh OY).up hb); replace S1 := hide ((uh S1).up hb); replace SK := hide ((uh SK).up hb); replace OXM := hide ((uh OXM).up hb); replace RS := hide ((uh RS).up hb); have sz102 := hide (hb.size); replace BB := hide (below_y (uh BB) hb); clear hb; have N := hide obN; clear obN; have ON := hide oN; clear oN
         have EU2 : Hid (uid = (addV xb f.flags f.text).2) := congrArg Prod.snd (uh HZ)
         have EZ2 : Hid (z = (addV xb f.flags f.text).1) := congrArg Prod.fst (uh HZ)
         by_cases hu : uid = 0
         ·have d0 : (uid == 0) = true := beq_iff_eq.2 hu
          have NO : Hid (addAll zY (inSet set zX) = none) := by show _ = _; rw [uh NX]; exact addAll_no (by rw [← uh EU2]; exact hu)
          clear hu
          have ANS : Hid (copyV s src set dst = (s, 3)) := by show _ = _; rw [uh CV, uh BX, uh BY]; simp only; rw [uh NO]
          have Sc0_9 := (uh S).cell 0 rfl; have Sc1_9 := (uh S).cell 1 rfl; have Rf0 := (uh R).frozen 0; have Rf1 := (uh R).frozen 1; have Re0 := (uh R).cell 0 rfl; have Re1 := (uh R).cell 1 rfl; have F := hide (fill2 (uh R) (.slice ak n ck) (.int .i64 s.valid))
          obtain ⟨U, hU⟩ : ∃ U, U = ((wsr2.setCell ⟨ws1.heap.size, 0, none⟩ (.slice ak n ck)).setCell ⟨ws1.heap.size, 1, none⟩ (.int .i64 s.valid)) := ⟨_, rfl⟩
          have F9 := uh F
          rw [← hU] at F9
          have EU := hU.symm; clear F hU; have v0 := F9.obj.cell 0 rfl; have v1 := F9.obj.cell 1 rfl; have F := hide F9; clear F9
          go_wp2_with (refine bodyPost_ret (by simp [results, Tryz.results17, go_sem, v0, v1]; try rfl) rfl ?_)
          clear EU; have F := uh F
          rw [uh ANS]
          exact ⟨_, rfl, ⟨KL, uh HK, ⟨F.row (by decide) (uh SK).row, fun x hx => ⟨F.row (by decide) ((uh SK).each x hx).1, F.row (by decide) ((uh SK).each x hx).2⟩⟩⟩, F.below loR (uh BB)⟩
         ·have d0 : (uid == 0) = false := beq_eq_false_iff_ne.2 hu
          have YES : Hid (addAll zY (inSet set zX) = addAll z ((zX.mails.drop (k + 1)).filter fun m => hasB set m.uid)) := by show _ = _; rw [uh NX, addAll_yes (by rw [← uh EU2]; exact hu), ← uh EZ2]
          have ZOK : Hid (boxOk z = true) := by show _ = _; rw [uh EZ2]; exact addV_ok (by rw [← uh EU2]; exact hu)
          clear hu; have Nc0_9 := (uh N).cell 0 rfl; have Nc1_9 := (uh N).cell 1 rfl; have Nc2_9 := (uh N).cell 2 rfl; have Nc3_9 := (uh N).cell 3 rfl; have Nc4_9 := (uh N).cell 4 rfl; have Nc5_9 := (uh N).cell 5 rfl; have Nc6_9 := (uh N).cell 6 rfl; have Yf0 := (uh Y).frozen 0; have Yf1 := (uh Y).frozen 1; have Yf2 := (uh Y).frozen 2; have Yf3 := (uh Y).frozen 3; have Yf4 := (uh Y).frozen 4; have Yf5 := (uh Y).frozen 5; have Yf6 := (uh Y).frozen 6; have Ye0 := (uh Y).cell 0 rfl; have Ye1 := (uh Y).cell 1 rfl; have Ye2 := (uh Y).cell 2 rfl; have Ye3 := (uh Y).cell 3 rfl; have Ye4 := (uh Y).cell 4 rfl; have Ye5 := (uh Y).cell 5 rfl; have Ye6 := (uh Y).cell 6 rfl; have F_ := fill7 (uh Y) (.string z.name) (.int .i64 z.valid) (.int .i64 z.next) (.int .i64 z.mod) (.slice amN z.mails.length cmN) (.slice atN z.tombs.length ctN) (.int .i64 z.hor); have FG := @fillS_grown wsr2 (ws9.heap.size) (.string z.name) (.int .i64 z.valid) (.int .i64 z.next) (.int .i64 z.mod) (.slice amN z.mails.length cmN) (.slice atN z.tombs.length ctN) (.int .i64 z.hor)
          obtain ⟨wsy3, hU⟩ : ∃ X, X = (((((((wsr2.setCell ⟨ws9.heap.size, 0, none⟩ (.string z.name)).setCell ⟨ws9.heap.size, 1, none⟩ (.int .i64 z.valid)).setCell ⟨ws9.heap.size, 2, none⟩ (.int .i64 z.next)).setCell ⟨ws9.heap.size, 3, none⟩ (.int .i64 z.mod)).setCell ⟨ws9.heap.size, 4, none⟩ (.slice amN z.mails.length cmN)).setCell ⟨ws9.heap.size, 5, none⟩ (.slice atN z.tombs.length ctN)).setCell ⟨ws9.heap.size, 6, none⟩ (.int .i64 z.hor)) := ⟨_, rfl⟩
          rw [← hU] at F_ FG
          have EU := hU.symm; clear hU; have A_ := hide (F_.other (neAY) (uh A)); have R_ := hide (F_.other (neRY) (uh R)); have S_ := hide (F_.other (neSY) (uh S)); have X_ := hide (F_.other (neXY) (uh X)); have Y_ := hide F_.obj
          have OXM_ : Hid (OwnMl w.heap.size wsy3 (.slice (some ⟨gb, 0, none⟩) nx cmX) zX.mails) := F_.row (by decide) (uh OXM)
          have RS_ : Hid (OwnR B2 wsy3 vs set) := F_.row (by decide) (uh RS)
          have OY_ : Hid (OwnBx w.heap.size wsy3 (.slice amN z.mails.length cmN) (.slice atN z.tombs.length ctN) z) := OwnBx.based ⟨F_.row (by decide) (uh ON).1, F_.row (by decide) (uh ON).2⟩ (uh hszW)
          have S1_ := hide ((uh S1).butB (GrownBut.of FG) (fun q h1 h2 => by have q1_ := uh NS q (.inl h1); have q2_ := Option.some.inj h2; omega))
          have SK_ := hide ((uh SK).butB (GrownBut.of FG) (fun q h1 h2 => by have q1_ := uh NS q (.inr h1); have q2_ := Option.some.inj h2; omega))
          have BB_ : Hid (Below w.heap.size w wsy3) := F_.below loY (uh BB)
          clear F_ FG A R S X Y OXM RS OY S1 SK BB ON N; have A := A_; clear A_; have R := R_; clear R_; have S := S_; clear S_; have X := X_; clear X_; have Y := Y_; clear Y_; have OXM := OXM_; clear OXM_; have RS := RS_; clear RS_; have OY := OY_; clear OY_; have S1 := S1_; clear S1_; have SK := SK_; clear SK_; have BB := BB_; clear BB_
          go_wp2
          clear EU
          go_roundw
          case rel => rw [uh HREL]; exact ⟨k + 1, ⟨z, .slice amN z.mails.length cmN, .slice atN z.tombs.length ctN⟩, by omega, by go_num, uh ZOK, uh YES, uh A, uh R, uh S, uh X, uh Y, uh OY, uh S1, uh SK, uh OXM, uh RS, uh BB⟩
          case measure => simp [intOf]; omega
      ·obtain rfl : k = nx := by omega
       have A := hide oA; have R := hide oR; have S := hide oS; have X := hide oX; have Y := hide oY; have OY := hide ox; have S1 := hide o1; have SK := hide ok_; have OXM := hide om; have RS := hide ors; have BB := hide hbel; clear oA oR oS oX oY ox o1 ok_ om ors hbel
       have DN : Hid (addAll zY (inSet set zX) = some xb) := by show _ = _; rw [uh HALL, List.drop_of_length_le (by have := uh HNX; omega)]; rfl
       have FB := hide (fit_ok (uh HXK)); clear hlt; have Ac0_6 := (uh A).cell 0 rfl; have Ac1_6 := (uh A).cell 1 rfl; have Yc0_7 := (uh Y).cell 0 rfl; have Yc1_7 := (uh Y).cell 1 rfl; have Yc2_7 := (uh Y).cell 2 rfl; have Yc3_7 := (uh Y).cell 3 rfl; have Yc4_7 := (uh Y).cell 4 rfl; have Yc5_7 := (uh Y).cell 5 rfl; have Yc6_7 := (uh Y).cell 6 rfl; have Xc0_8 := (uh X).cell 0 rfl; have Xc1_8 := (uh X).cell 1 rfl; have Xc2_8 := (uh X).cell 2 rfl; have Xc3_8 := (uh X).cell 3 rfl; have Xc4_8 := (uh X).cell 4 rfl; have Xc5_8 := (uh X).cell 5 rfl; have Xc6_8 := (uh X).cell 6 rfl; go_wp2_with fail; clear Ac0_6 Ac1_6 Yc0_7 Yc1_7 Yc2_7 Yc3_7 Yc4_7 Yc5_7 Yc6_7 Xc0_8 Xc1_8 Xc2_8 Xc3_8 Xc4_8 Xc5_8 Xc6_8
       have LO9 : w.heap.size ≤ wo.heap.size := (uh BB).size
       refine (spec_PutBox_any s xb _ _ _ _ _ _ (uh FT) (uh FB) ⟨L, uh HL, uh S1⟩ (uh OY)).mono ?_
       rintro e wsx1 ⟨v9, rfl, o9, hb⟩
       obtain ⟨J, hJ, oJ⟩ := o9
       obtain ⟨a9, c9, rfl⟩ := g_shape oJ.row
       have OJ_ := hide (oJ.based LO9); have HJ := hide hJ; clear oJ hJ; replace A := hide ((uh A).ups hb); replace R := hide ((uh R).ups hb); replace S := hide ((uh S).ups hb); replace X := hide ((uh X).ups hb); replace Y := hide ((uh Y).ups hb); replace OY := hide ((uh OY).up hb); replace S1 := hide ((uh S1).up hb); replace SK := hide ((uh SK).up hb); replace OXM := hide ((uh OXM).up hb); replace RS := hide ((uh RS).up hb); have sz101 := hide (hb.size); replace BB := hide (below_y (uh BB) hb); clear hb; have OJ := OJ_; clear OJ_
       have ANS : Hid (copyV s src set dst = (putSt s xb, 0)) := by show _ = _; rw [uh CV, uh BX, uh BY]; simp only; rw [uh DN]
       have EJ : J.length = s.boxes.length := by have h9 := congrArg List.length (uh HJ); rw [List.length_map, putX_len] at h9; exact h9
       rw [EJ] at OJ ⊢
       clear EJ; have Rf0 := (uh R).frozen 0; have Rf1 := (uh R).frozen 1; have Re0 := (uh R).cell 0 rfl; have Re1 := (uh R).cell 1 rfl; have F := hide (fill2 (uh R) (.slice a9 s.boxes.length c9) (.int .i64 s.valid))
       obtain ⟨U, hU⟩ : ∃ U, U = ((wsx1.setCell ⟨ws1.heap.size, 0, none⟩ (.slice a9 s.boxes.length c9)).setCell ⟨ws1.heap.size, 1, none⟩ (.int .i64 s.valid)) := ⟨_, rfl⟩
       have F9 := uh F
       rw [← hU] at F9
       have EU := hU.symm; clear F hU; have v0 := F9.obj.cell 0 rfl; have v1 := F9.obj.cell 1 rfl; have F := hide F9; clear F9
       go_wp2_with (refine bodyPost_ret (by simp [results, Tryz.results17, go_sem, v0, v1]; try rfl) rfl ?_)
       clear EU; have F := uh F
       rw [uh ANS]
       exact ⟨_, rfl, ⟨J, uh HJ, ⟨F.row (by decide) (uh OJ).row, fun x hx => ⟨F.row (by decide) ((uh OJ).each x hx).1, F.row (by decide) ((uh OJ).each x hx).2⟩⟩⟩, F.below loR (uh BB)⟩
end Go.Proofs.YtecognggnbopaacGreat
