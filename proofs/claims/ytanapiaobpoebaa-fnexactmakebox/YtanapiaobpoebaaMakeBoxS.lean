/- The specification's MakeBox. Made by gen_stores.py. -/
import Derived.Test.YtanapiaobpoebaaTv
import Derived.Test.YtanapiaobpoebaaMakePlain
import Derived.Test.YtanapiaobpoebaaStoreS
namespace Go.Proofs.Ytanapiaobpoebaa
open Go.RowKit
open Plain
set_option linter.unusedVariables false
set_option linter.unusedSimpArgs false

theorem gtrB (a b : ByteArray) : (!Op.bytesLess a.toList b.toList && !(a.toList == b.toList)) = ltB b a := by
 have h := less_asymm a.toList b.toList
 unfold ltB
 cases h1 : Op.bytesLess a.toList b.toList <;> cases h2 : (a.toList == b.toList) <;> rw [h1, h2] at h <;> simp at h <;> simp [h]
theorem made_map (KL : List Lb) (name : ByteArray) (v : Int) (l : List Bx) (h : KL.map (·.b) = l) : (KL.filter (fun x => ltB x.b.name name) ++ [(⟨newBox name v, .slice none 0 0, .slice none 0 0⟩ : Lb)] ++ KL.filter (fun x => ltB name x.b.name)).map (·.b) = madeL l name v := by
 subst h
 unfold madeL
 rw [List.map_append, List.map_append, List.filter_map, List.filter_map, List.append_assoc]
 rfl
theorem filter_take {KL : List Lb} {k : Nat} {x : Lb} (p : Lb → Bool) (h : KL[k]? = some x) : (KL.take (k + 1)).filter p = (KL.take k).filter p ++ (if p x = true then [x] else []) := by
 rw [take_snoc h, List.filter_append]
 cases h2 : p x <;> simp [List.filter_cons, h2]
set_option maxHeartbeats 16000000 in
set_option maxRecDepth 100000 in
theorem spec_MakeBox_any (s : Sx) (name : ByteArray) (v : Value) (B : Nat) (w : World) (hf : FitSt s) (hz : name.size ≤ 1048576) (h : ReadSt B w v s.boxes) :
  Calls Try.prog 5 #[.agg #[v, .int .i64 s.valid], .string name] w fun e w' => ∃ v', e = .returned (.tuple #[.agg #[v', .int .i64 (makeV s name).1.valid], .int .i64 (makeV s name).2]) ∧ ReadSt w.heap.size w' v' (makeV s name).1.boxes ∧ Below w.heap.size w w' := by
 obtain ⟨iX, hX, hX0, hX1, hX2⟩ := info_parts Try.infoBox
 have FT := hide hf
 obtain ⟨L, hL, h⟩ := h
 obtain ⟨a1, c1, rfl⟩ := g_shape h.row
 obtain ⟨n, hn⟩ : ∃ n, n = s.boxes.length := ⟨_, rfl⟩
 have hn1 : L.length = n := by rw [hn, ← hL, List.length_map]
 have hnl := hf.len
 rw [← hn] at hnl
 have S1 := hide h
 rw [hn1] at S1 ⊢
 have FE := hide hf.each; have HL := hide hL; have HN := hide hn; have HN1 := hide hn1; clear h hL hn hn1 hf
 have b1 : ∀ t a b, binOp .lss t (.string a) (.string b) = pure (.bool (ltB a b)) := fun t a b => by simp [binOp, Op.stringOp, ltB]
 have b2 : ∀ t a b, binOp .gtr t (.string a) (.string b) = pure (.bool (ltB b a)) := fun t a b => by simp [binOp, Op.stringOp]; rw [gtrB]
 have BB := hide (Below.refl w.heap.size w)
 obtain ⟨ws1, hA⟩ : ∃ X, X = w.alloc (.cells ([.slice a1 n c1, .int .i64 s.valid] : List Value).toArray 28) := ⟨_, rfl⟩
 have Ax : HasObj ws1 w.heap.size 28 [.slice a1 n c1, .int .i64 s.valid] := by rw [hA]; exact HasObj.new _ _ _
 have hbn : Below w.heap.size w ws1 := by rw [hA]; exact (Below.refl _ _).alloc (Nat.le_refl _) _
 have loA : w.heap.size ≤ w.heap.size := (uh BB).size
 have EA := hA.symm; clear hA; replace S1 := hide ((uh S1).up hbn); have sz1 := hide (hbn.size); replace BB := hide (below_y (uh BB) hbn); clear hbn; have A := hide Ax; clear Ax
 obtain ⟨ws2, hR⟩ : ∃ X, X = ws1.alloc (.cells ([.slice none 0 0, .int .i64 0] : List Value).toArray 28) := ⟨_, rfl⟩
 have Rx : HasObj ws2 ws1.heap.size 28 [.slice none 0 0, .int .i64 0] := by rw [hR]; exact HasObj.new _ _ _
 have hbn : Below ws1.heap.size ws1 ws2 := by rw [hR]; exact (Below.refl _ _).alloc (Nat.le_refl _) _
 have neAR : w.heap.size ≠ ws1.heap.size := Nat.ne_of_lt (uh A).lt
 have loR : w.heap.size ≤ ws1.heap.size := (uh BB).size
 have ER := hR.symm; clear hR; replace A := hide ((uh A).ups hbn); replace S1 := hide ((uh S1).up hbn); have sz2 := hide (hbn.size); replace BB := hide (below_y (uh BB) hbn); clear hbn; have R := hide Rx; clear Rx; have Ac0_1 := (uh A).cell 0 rfl; have Ac1_1 := (uh A).cell 1 rfl
 go_enter Try.func5, Try.ntmps5
 go_wp2_with fail; clear Ac0_1 Ac1_1 EA ER
 have LO : Hid (w.heap.size ≤ ws2.heap.size) := (uh BB).size
 refine (l09Copy_any s _ _ _ (uh FT) ⟨L, uh HL, uh S1⟩).mono ?_
 rintro e ws3 ⟨v9, rfl, oS, hb⟩
 obtain ⟨KL, hK, oK⟩ := oS
 obtain ⟨ak, ck, rfl⟩ := g_shape oK.row
 have hnK : KL.length = n := by rw [uh HN, ← hK, List.length_map]
 have SK_ := hide (oK.based (uh LO))
 rw [hnK] at SK_ ⊢
 have HK := hide hK; have HNK := hide hnK; clear oK hK hnK; replace A := hide ((uh A).ups hb); replace R := hide ((uh R).ups hb); replace S1 := hide ((uh S1).up hb); have sz3 := hide (hb.size); replace BB := hide (below_y (uh BB) hb); clear hb; have SK := SK_; clear SK_
 obtain ⟨ws4, hS⟩ : ∃ X, X = ws3.alloc (.cells ([.slice ak n ck, .int .i64 s.valid] : List Value).toArray 28) := ⟨_, rfl⟩
 have Sx : HasObj ws4 ws3.heap.size 28 [.slice ak n ck, .int .i64 s.valid] := by rw [hS]; exact HasObj.new _ _ _
 have hbn : Below ws3.heap.size ws3 ws4 := by rw [hS]; exact (Below.refl _ _).alloc (Nat.le_refl _) _
 have neAS : w.heap.size ≠ ws3.heap.size := Nat.ne_of_lt (uh A).lt
 have neRS : ws1.heap.size ≠ ws3.heap.size := Nat.ne_of_lt (uh R).lt
 have loS : w.heap.size ≤ ws3.heap.size := (uh BB).size
 have ES := hS.symm; clear hS; replace A := hide ((uh A).ups hbn); replace R := hide ((uh R).ups hbn); replace S1 := hide ((uh S1).up hbn); replace SK := hide ((uh SK).up hbn); have sz4 := hide (hbn.size); replace BB := hide (below_y (uh BB) hbn); clear hbn; have S := hide Sx; clear Sx; have Ac0_2 := (uh A).cell 0 rfl; have Ac1_2 := (uh A).cell 1 rfl; go_wp2_with fail; clear Ac0_2 Ac1_2 ES
 refine (spec_StoreOk_any s _ _ _ (uh FT) ⟨L, uh HL, uh S1⟩).mono ?_
 rintro e ws5 ⟨rfl, hb⟩
 replace A := hide ((uh A).ups hb); replace R := hide ((uh R).ups hb); replace S := hide ((uh S).ups hb); replace S1 := hide ((uh S1).up hb); replace SK := hide ((uh SK).up hb); have sz5 := hide (hb.size); replace BB := hide (below_y (uh BB) hb); clear hb
 cases h1 : storeOk s with
 | false =>
  have ANS : Hid (makeV s name = (s, 4)) := makeV_bad1 h1
  have Sc0_3 := (uh S).cell 0 rfl; have Sc1_3 := (uh S).cell 1 rfl; have Rf0 := (uh R).frozen 0; have Rf1 := (uh R).frozen 1; have Re0 := (uh R).cell 0 rfl; have Re1 := (uh R).cell 1 rfl; have F := hide (fill2 (uh R) (.slice ak n ck) (.int .i64 s.valid))
  obtain ⟨U, hU⟩ : ∃ U, U = ((ws5.setCell ⟨ws1.heap.size, 0, none⟩ (.slice ak n ck)).setCell ⟨ws1.heap.size, 1, none⟩ (.int .i64 s.valid)) := ⟨_, rfl⟩
  have F9 := uh F
  rw [← hU] at F9
  have EU := hU.symm; clear F hU; have v0 := F9.obj.cell 0 rfl; have v1 := F9.obj.cell 1 rfl; have F := hide F9; clear F9
  go_wp2_with (refine bodyPost_ret (by simp [results, Try.results5, go_sem, v0, v1]; try rfl) rfl ?_)
  clear EU; have F := uh F
  rw [uh ANS]
  first | exact ⟨_, rfl, ⟨KL, uh HK, ⟨F.row (by decide) (uh SK).row, fun x hx => ⟨F.row (by decide) ((uh SK).each x hx).1, F.row (by decide) ((uh SK).each x hx).2⟩⟩⟩, F.below loR (uh BB)⟩ | exact ⟨_, ⟨⟨rfl, rfl⟩, rfl⟩, ⟨KL, uh HK, ⟨F.row (by decide) (uh SK).row, fun x hx => ⟨F.row (by decide) ((uh SK).each x hx).1, F.row (by decide) ((uh SK).each x hx).2⟩⟩⟩, F.below loR (uh BB)⟩
 | true =>
  go_wp2_with fail
  refine (spec_BoxName_any name _ hz).mono ?_
  rintro e ws6 ⟨rfl, hw⟩
  subst ws6
  cases h2 : nameOkL name.data.toList with
  | false =>
   have ANS : Hid (makeV s name = (s, 4)) := makeV_bad2 h2
   have Sc0_3 := (uh S).cell 0 rfl; have Sc1_3 := (uh S).cell 1 rfl; have Rf0 := (uh R).frozen 0; have Rf1 := (uh R).frozen 1; have Re0 := (uh R).cell 0 rfl; have Re1 := (uh R).cell 1 rfl; have F := hide (fill2 (uh R) (.slice ak n ck) (.int .i64 s.valid))
   obtain ⟨U, hU⟩ : ∃ U, U = ((ws5.setCell ⟨ws1.heap.size, 0, none⟩ (.slice ak n ck)).setCell ⟨ws1.heap.size, 1, none⟩ (.int .i64 s.valid)) := ⟨_, rfl⟩
   have F9 := uh F
   rw [← hU] at F9
   have EU := hU.symm; clear F hU; have v0 := F9.obj.cell 0 rfl; have v1 := F9.obj.cell 1 rfl; have F := hide F9; clear F9
   go_wp2_with (refine bodyPost_ret (by simp [results, Try.results5, go_sem, v0, v1]; try rfl) rfl ?_)
   clear EU; have F := uh F
   rw [uh ANS]
   first | exact ⟨_, rfl, ⟨KL, uh HK, ⟨F.row (by decide) (uh SK).row, fun x hx => ⟨F.row (by decide) ((uh SK).each x hx).1, F.row (by decide) ((uh SK).each x hx).2⟩⟩⟩, F.below loR (uh BB)⟩ | exact ⟨_, ⟨⟨rfl, rfl⟩, rfl⟩, ⟨KL, uh HK, ⟨F.row (by decide) (uh SK).row, fun x hx => ⟨F.row (by decide) ((uh SK).each x hx).1, F.row (by decide) ((uh SK).each x hx).2⟩⟩⟩, F.below loR (uh BB)⟩
  | true =>
   have H1 := hide h1; have H2 := hide h2; have RT := hide (right_st h1); clear h1 h2; have Ac0_3 := (uh A).cell 0 rfl; have Ac1_3 := (uh A).cell 1 rfl; go_wp2_with fail; clear Ac0_3 Ac1_3
   refine (spec_BoxAt_any s name _ _ _ (uh FT) ⟨L, uh HL, uh S1⟩).mono ?_
   rintro e ws7 ⟨mX, tX, rfl, oX, hb⟩
   obtain ⟨zX, okX, hzX⟩ : ∃ z ok, (z, ok) = atV s name := ⟨_, _, rfl⟩
   rw [← hzX] at oX ⊢
   simp only at oX ⊢
   have ATX := hide hzX
   obtain ⟨amX, cmX, rfl⟩ := g_shape oX.1
   obtain ⟨atX, ctX, rfl⟩ := g_shape oX.2
   clear oX hzX; clear S1; replace A := hide ((uh A).ups hb); replace R := hide ((uh R).ups hb); replace S := hide ((uh S).ups hb); replace SK := hide ((uh SK).up hb); have sz6 := hide (hb.size); replace BB := hide (below_y (uh BB) hb); clear hb
   obtain ⟨ws8, hX⟩ : ∃ X, X = ws7.alloc (.cells ([.string zX.name, .int .i64 zX.valid, .int .i64 zX.next, .int .i64 zX.mod, .slice amX zX.mails.length cmX, .slice atX zX.tombs.length ctX, .int .i64 zX.hor] : List Value).toArray 42) := ⟨_, rfl⟩
   have Xx : HasObj ws8 ws7.heap.size 42 [.string zX.name, .int .i64 zX.valid, .int .i64 zX.next, .int .i64 zX.mod, .slice amX zX.mails.length cmX, .slice atX zX.tombs.length ctX, .int .i64 zX.hor] := by rw [hX]; exact HasObj.new _ _ _
   have hbn : Below ws7.heap.size ws7 ws8 := by rw [hX]; exact (Below.refl _ _).alloc (Nat.le_refl _) _
   have neAX : w.heap.size ≠ ws7.heap.size := Nat.ne_of_lt (uh A).lt
   have neRX : ws1.heap.size ≠ ws7.heap.size := Nat.ne_of_lt (uh R).lt
   have neSX : ws3.heap.size ≠ ws7.heap.size := Nat.ne_of_lt (uh S).lt
   have loX : w.heap.size ≤ ws7.heap.size := (uh BB).size
   have EX := hX.symm; clear hX; replace A := hide ((uh A).ups hbn); replace R := hide ((uh R).ups hbn); replace S := hide ((uh S).ups hbn); replace SK := hide ((uh SK).up hbn); have sz7 := hide (hbn.size); replace BB := hide (below_y (uh BB) hbn); clear hbn; have X := hide Xx; clear Xx
   cases okX with
   | true =>
    have ANS : Hid (makeV s name = (s, 2)) := makeV_there (uh H1) (uh H2) (at_yes (uh ATX))
    have Sc0_4 := (uh S).cell 0 rfl; have Sc1_4 := (uh S).cell 1 rfl; have Rf0 := (uh R).frozen 0; have Rf1 := (uh R).frozen 1; have Re0 := (uh R).cell 0 rfl; have Re1 := (uh R).cell 1 rfl; have F := hide (fill2 (uh R) (.slice ak n ck) (.int .i64 s.valid))
    obtain ⟨U, hU⟩ : ∃ U, U = ((ws8.setCell ⟨ws1.heap.size, 0, none⟩ (.slice ak n ck)).setCell ⟨ws1.heap.size, 1, none⟩ (.int .i64 s.valid)) := ⟨_, rfl⟩
    have F9 := uh F
    rw [← hU] at F9
    have EU := hU.symm; clear F hU; have v0 := F9.obj.cell 0 rfl; have v1 := F9.obj.cell 1 rfl; have F := hide F9; clear F9
    go_wp2_with (refine bodyPost_ret (by simp [results, Try.results5, go_sem, v0, v1]; try rfl) rfl ?_)
    clear EU; have F := uh F
    rw [uh ANS]
    first | exact ⟨_, rfl, ⟨KL, uh HK, ⟨F.row (by decide) (uh SK).row, fun x hx => ⟨F.row (by decide) ((uh SK).each x hx).1, F.row (by decide) ((uh SK).each x hx).2⟩⟩⟩, F.below loR (uh BB)⟩ | exact ⟨_, ⟨⟨rfl, rfl⟩, rfl⟩, ⟨KL, uh HK, ⟨F.row (by decide) (uh SK).row, fun x hx => ⟨F.row (by decide) ((uh SK).each x hx).1, F.row (by decide) ((uh SK).each x hx).2⟩⟩⟩, F.below loR (uh BB)⟩
   | false =>
    have BX := hide (at_no (uh ATX))
    by_cases hf1 : 4 ≤ n
    ·have q1 : (4 : Int) ≤ (n : Int) := by omega
     have hA : Hid (4 ≤ s.boxes.length) := by show _ ≤ _; rw [← uh HN]; exact hf1
     have Ac0_4 := (uh A).cell 0 rfl; have Ac1_4 := (uh A).cell 1 rfl
     have ANS : Hid (makeV s name = (s, 3)) := makeV_full (uh H1) (uh H2) (uh BX) (.inl (uh hA))
     have Sc0_5 := (uh S).cell 0 rfl; have Sc1_5 := (uh S).cell 1 rfl; have Rf0 := (uh R).frozen 0; have Rf1 := (uh R).frozen 1; have Re0 := (uh R).cell 0 rfl; have Re1 := (uh R).cell 1 rfl; have F := hide (fill2 (uh R) (.slice ak n ck) (.int .i64 s.valid))
     obtain ⟨U, hU⟩ : ∃ U, U = ((ws8.setCell ⟨ws1.heap.size, 0, none⟩ (.slice ak n ck)).setCell ⟨ws1.heap.size, 1, none⟩ (.int .i64 s.valid)) := ⟨_, rfl⟩
     have F9 := uh F
     rw [← hU] at F9
     have EU := hU.symm; clear F hU; have v0 := F9.obj.cell 0 rfl; have v1 := F9.obj.cell 1 rfl; have F := hide F9; clear F9
     go_wp2_with (refine bodyPost_ret (by simp [results, Try.results5, go_sem, v0, v1]; try rfl) rfl ?_)
     clear EU; have F := uh F
     rw [uh ANS]
     first | exact ⟨_, rfl, ⟨KL, uh HK, ⟨F.row (by decide) (uh SK).row, fun x hx => ⟨F.row (by decide) ((uh SK).each x hx).1, F.row (by decide) ((uh SK).each x hx).2⟩⟩⟩, F.below loR (uh BB)⟩ | exact ⟨_, ⟨⟨rfl, rfl⟩, rfl⟩, ⟨KL, uh HK, ⟨F.row (by decide) (uh SK).row, fun x hx => ⟨F.row (by decide) ((uh SK).each x hx).1, F.row (by decide) ((uh SK).each x hx).2⟩⟩⟩, F.below loR (uh BB)⟩
    ·have q1 : ¬ ((4 : Int) ≤ (n : Int)) := by omega
     by_cases hf2 : 9999 ≤ s.valid
     ·skip
      have Ac0_4 := (uh A).cell 0 rfl; have Ac1_4 := (uh A).cell 1 rfl
      have ANS : Hid (makeV s name = (s, 3)) := makeV_full (uh H1) (uh H2) (uh BX) (.inr hf2)
      have Sc0_5 := (uh S).cell 0 rfl; have Sc1_5 := (uh S).cell 1 rfl; have Rf0 := (uh R).frozen 0; have Rf1 := (uh R).frozen 1; have Re0 := (uh R).cell 0 rfl; have Re1 := (uh R).cell 1 rfl; have F := hide (fill2 (uh R) (.slice ak n ck) (.int .i64 s.valid))
      obtain ⟨U, hU⟩ : ∃ U, U = ((ws8.setCell ⟨ws1.heap.size, 0, none⟩ (.slice ak n ck)).setCell ⟨ws1.heap.size, 1, none⟩ (.int .i64 s.valid)) := ⟨_, rfl⟩
      have F9 := uh F
      rw [← hU] at F9
      have EU := hU.symm; clear F hU; have v0 := F9.obj.cell 0 rfl; have v1 := F9.obj.cell 1 rfl; have F := hide F9; clear F9
      go_wp2_with (refine bodyPost_ret (by simp [results, Try.results5, go_sem, v0, v1]; try rfl) rfl ?_)
      clear EU; have F := uh F
      rw [uh ANS]
      first | exact ⟨_, rfl, ⟨KL, uh HK, ⟨F.row (by decide) (uh SK).row, fun x hx => ⟨F.row (by decide) ((uh SK).each x hx).1, F.row (by decide) ((uh SK).each x hx).2⟩⟩⟩, F.below loR (uh BB)⟩ | exact ⟨_, ⟨⟨rfl, rfl⟩, rfl⟩, ⟨KL, uh HK, ⟨F.row (by decide) (uh SK).row, fun x hx => ⟨F.row (by decide) ((uh SK).each x hx).1, F.row (by decide) ((uh SK).each x hx).2⟩⟩⟩, F.below loR (uh BB)⟩
     ·have wv : IntKind.i64.wrap (s.valid + 1) = s.valid + 1 := by have q2_ := (uh RT).v1; rw [IntKind.wrap_i64]; omega
      have ANS : Hid (makeV s name = (⟨madeL s.boxes name s.valid, s.valid + 1⟩, 0)) := makeV_yes (uh H1) (uh H2) (uh BX) (by rw [← uh HN]; exact hf1) hf2
      have NV := hide (newV_ok (uh H2) (show 1 ≤ s.valid by have q2_ := (uh RT).v1; omega) (uh RT).v2)
      have Ac0_4 := (uh A).cell 0 rfl; have Ac1_4 := (uh A).cell 1 rfl; go_wp2_with fail; clear Ac0_4 Ac1_4 EX
      refine (spec_BoxNew_any name s.valid _ hz).mono ?_
      rintro e ws9 ⟨rfl, hb⟩
      rw [uh NV]
      simp only
      replace A := hide ((uh A).ups hb); replace R := hide ((uh R).ups hb); replace S := hide ((uh S).ups hb); replace X := hide ((uh X).ups hb); replace SK := hide ((uh SK).up hb); have sz8 := hide (hb.size); replace BB := hide (below_y (uh BB) hb); clear hb
      obtain ⟨ws10, hN⟩ : ∃ X, X = ws9.alloc (.cells ([.string (newBox name s.valid).name, .int .i64 (newBox name s.valid).valid, .int .i64 (newBox name s.valid).next, .int .i64 (newBox name s.valid).mod, .slice none 0 0, .slice none 0 0, .int .i64 (newBox name s.valid).hor] : List Value).toArray 42) := ⟨_, rfl⟩
      have Nx : HasObj ws10 ws9.heap.size 42 [.string (newBox name s.valid).name, .int .i64 (newBox name s.valid).valid, .int .i64 (newBox name s.valid).next, .int .i64 (newBox name s.valid).mod, .slice none 0 0, .slice none 0 0, .int .i64 (newBox name s.valid).hor] := by rw [hN]; exact HasObj.new _ _ _
      have hbn : Below ws9.heap.size ws9 ws10 := by rw [hN]; exact (Below.refl _ _).alloc (Nat.le_refl _) _
      have neAN : w.heap.size ≠ ws9.heap.size := Nat.ne_of_lt (uh A).lt
      have neRN : ws1.heap.size ≠ ws9.heap.size := Nat.ne_of_lt (uh R).lt
      have neSN : ws3.heap.size ≠ ws9.heap.size := Nat.ne_of_lt (uh S).lt
      have neXN : ws7.heap.size ≠ ws9.heap.size := Nat.ne_of_lt (uh X).lt
      have loN : w.heap.size ≤ ws9.heap.size := (uh BB).size
      have EN := hN.symm; clear hN; replace A := hide ((uh A).ups hbn); replace R := hide ((uh R).ups hbn); replace S := hide ((uh S).ups hbn); replace X := hide ((uh X).ups hbn); replace SK := hide ((uh SK).up hbn); have sz9 := hide (hbn.size); replace BB := hide (below_y (uh BB) hbn); clear hbn; have N := hide Nx; clear Nx; have Ac0_5 := (uh A).cell 0 rfl; have Ac1_5 := (uh A).cell 1 rfl
      obtain ⟨ws11, hO⟩ : ∃ X, X = ws10.alloc (.cells ([.slice none 0 0, .int .i64 (s.valid + 1)] : List Value).toArray 28) := ⟨_, rfl⟩
      have Ox : HasObj ws11 ws10.heap.size 28 [.slice none 0 0, .int .i64 (s.valid + 1)] := by rw [hO]; exact HasObj.new _ _ _
      have hbn : Below ws10.heap.size ws10 ws11 := by rw [hO]; exact (Below.refl _ _).alloc (Nat.le_refl _) _
      have neAO : w.heap.size ≠ ws10.heap.size := Nat.ne_of_lt (uh A).lt
      have neRO : ws1.heap.size ≠ ws10.heap.size := Nat.ne_of_lt (uh R).lt
      have neSO : ws3.heap.size ≠ ws10.heap.size := Nat.ne_of_lt (uh S).lt
      have neXO : ws7.heap.size ≠ ws10.heap.size := Nat.ne_of_lt (uh X).lt
      have neNO : ws9.heap.size ≠ ws10.heap.size := Nat.ne_of_lt (uh N).lt
      have loO : w.heap.size ≤ ws10.heap.size := (uh BB).size
      have EO := hO.symm; clear hO; replace A := hide ((uh A).ups hbn); replace R := hide ((uh R).ups hbn); replace S := hide ((uh S).ups hbn); replace X := hide ((uh X).ups hbn); replace N := hide ((uh N).ups hbn); replace SK := hide ((uh SK).up hbn); have sz10 := hide (hbn.size); replace BB := hide (below_y (uh BB) hbn); clear hbn; have O := hide Ox; clear Ox
      have OR1 : Hid (OwnBr w.heap.size ws11 (.slice ak n ck) KL) := (uh SK).row
      have EB1 : Hid (EachB w.heap.size ws11 KL) := (uh SK).each
      have LTS : Hid (∀ g, Value.ownBlock (.slice ak n ck) = some g → g < ws11.heap.size) := fun g hg => (World.ownsRow.lt (uh OR1) g hg).2
      clear SK
      have szL : Hid (w.heap.size ≤ ws11.heap.size) := (uh BB).size
      have OR2 : Hid (OwnBr ws11.heap.size ws11 (.slice none 0 0) []) := World.ownsRow_nil _ _ _ _
      have szq : Hid (ws11.heap.size ≤ ws11.heap.size) := Nat.le_refl _
      have LTN : Hid (ws9.heap.size < ws11.heap.size) := (uh N).lt
      clear A; clear X; have Sc0_6 := (uh S).cell 0 rfl; have Sc1_6 := (uh S).cell 1 rfl; have Oc0_7 := (uh O).cell 0 rfl; have Oc1_7 := (uh O).cell 1 rfl
      go_wp2
      clear Ac0_5 Ac1_5 Sc0_6 Sc1_6 Oc0_7 Oc1_7 EN EO
      obtain ⟨RELp, HRELp⟩ : ∃ REL : Value → World → Prop, Hid (REL = fun i wr => ∃ (k : Nat) (L2 : List Lb) (a2 : Option Addr) (c2 : Nat), k ≤ n ∧ i = .int .i64 k ∧ L2 = [] ++ (KL.take k).filter (fun x => ltB x.b.name name) ∧ HasObj wr (ws1.heap.size) 28 [.slice none 0 0, .int .i64 0] ∧ HasObj wr (ws3.heap.size) 28 [.slice ak n ck, .int .i64 s.valid] ∧ HasObj wr (ws10.heap.size) 28 [.slice a2 L2.length c2, .int .i64 (s.valid + 1)] ∧ HasObj wr (ws9.heap.size) 42 [.string (newBox name s.valid).name, .int .i64 (newBox name s.valid).valid, .int .i64 (newBox name s.valid).next, .int .i64 (newBox name s.valid).mod, .slice none 0 0, .slice none 0 0, .int .i64 (newBox name s.valid).hor] ∧ OwnBr w.heap.size wr (.slice ak n ck) KL ∧ EachB w.heap.size wr KL ∧ OwnBr ws11.heap.size wr (.slice a2 L2.length c2) L2 ∧ Below w.heap.size w wr ∧ ws11.heap.size ≤ wr.heap.size) := ⟨_, hide rfl⟩
      go_loopw [12] (fun i wr => RELp i wr) (fun i _ => n - (intOf i).toNat)
      case atStart => rw [uh HRELp]; exact ⟨0, [], none, 0, Nat.zero_le _, rfl, by simp, uh R, uh S, uh O, uh N, uh OR1, uh EB1, uh OR2, uh BB, uh szq⟩
      clear OR1 EB1 OR2 BB szq R S N O
      case round =>
       rw [uh HRELp] at hrel
       obtain ⟨k, L2, a2, c2, hk, rfl, hL2, oR, oS, oO, oN, o1, oe, o2, hbel, hsz⟩ := hrel
       obtain ⟨wop, hwo⟩ : ∃ wo, wo = wr := ⟨_, rfl⟩
       subst hwo
       have HL2 := hide hL2; clear hL2
       by_cases hlt : k < n
       ·have hkl : k < KL.length := by rw [uh HNK]; exact hlt
        have hx : KL[k]? = some KL[k] := List.getElem?_eq_getElem hkl
        have hmx := List.getElem_mem hkl
        obtain ⟨g1, q1, e3, _, _, _⟩ := br_read o1 hx
        have e5 := (Value.slice.inj e3).1; clear e3
        subst e5
        generalize KL[k] = x at *
        obtain ⟨b, m, t⟩ := x
        obtain ⟨am, cm, ee1⟩ := g_shape (oe _ hmx).1
        obtain ⟨at1, ct1, ee2⟩ := g_shape (oe _ hmx).2
        simp only at ee1 ee2
        subst ee1 ee2
        have R := hide oR; have S := hide oS; have O := hide oO; have N := hide oN; have OR1 := hide o1; have EB1 := hide oe; have OR2 := hide o2; have BB := hide hbel; have X1 := hide hx; have szq := hide hsz
        have NX := hide (filter_take (fun x => ltB x.b.name name) hx)
        have HLK : Hid (L2.length ≤ k + 10) := by show _ ≤ _; rw [uh HL2, List.length_append]; exact Nat.le_trans (Nat.add_le_add_left (List.length_filter_le _ _) _) (by rw [List.length_take]; simp; omega)
        clear oR oS oO oN o1 oe o2 hbel hx hmx hsz
        have i1 : (0 : Int) ≤ (k : Int) := by omega
        have i2 : (k : Int) < (n : Int) := by omega
        have ec0 := (br_of (uh OR1) (uh X1)).1
        simp only at ec0
        have Sc0_8 := (uh S).cell 0 rfl; have Sc1_8 := (uh S).cell 1 rfl
        cases hd : ltB b.name name with
        | false =>
         have NX2 : Hid (L2 = [] ++ (KL.take (k + 1)).filter (fun x => ltB x.b.name name)) := by show _ = _; rw [uh NX, if_neg (show ¬ (ltB b.name name = true) by rw [hd]; decide), List.append_nil]; exact uh HL2
         go_wp2
         go_roundw
         case rel => rw [uh HRELp]; exact ⟨k + 1, L2, _, _, by omega, by go_num, uh NX2, uh R, uh S, uh O, uh N, uh OR1, uh EB1, uh OR2, uh BB, (by show _ ≤ _; have szL_ := uh szL; have szq_ := uh szq; omega)⟩
         case measure => simp [intOf]; omega
        | true =>
         have Oc0_9 := (uh O).cell 0 rfl; have Oc1_9 := (uh O).cell 1 rfl
         go_wp2
         clear ec0 Sc0_8 Sc1_8 Oc0_9 Oc1_9
         have NX2 : Hid (L2 ++ [(⟨b, .slice am b.mails.length cm, .slice at1 b.tombs.length ct1⟩ : Lb)] = [] ++ (KL.take (k + 1)).filter (fun x => ltB x.b.name name)) := by show _ = _; rw [uh NX, if_pos (show ltB b.name name = true from hd), ← List.append_assoc, ← uh HL2]
         clear hd
         refine lateBegin (S := fun w' => w'.cell? ⟨ws3.heap.size, 0, none⟩ = some (.slice (some ⟨g1, 0, none⟩) n ck) ∧ w'.cell? ⟨ws10.heap.size, 0, none⟩ = some (.slice a2 L2.length c2) ∧ w'.cell? ⟨g1, k * 7, none⟩ = some (.string b.name) ∧ w'.cell? ⟨g1, k * 7 + 1, none⟩ = some (.int .i64 b.valid) ∧ w'.cell? ⟨g1, k * 7 + 2, none⟩ = some (.int .i64 b.next) ∧ w'.cell? ⟨g1, k * 7 + 3, none⟩ = some (.int .i64 b.mod) ∧ w'.cell? ⟨g1, k * 7 + 4, none⟩ = some (.slice am b.mails.length cm) ∧ w'.cell? ⟨g1, k * 7 + 5, none⟩ = some (.slice at1 b.tombs.length ct1) ∧ w'.cell? ⟨g1, k * 7 + 6, none⟩ = some (.int .i64 b.hor)) 10 (by kernel_rfl) (⟨(uh S).cell 0 rfl, (uh O).cell 0 rfl, (br_of (uh OR1) (uh X1)).1, (br_of (uh OR1) (uh X1)).2.1, (br_of (uh OR1) (uh X1)).2.2.1, (br_of (uh OR1) (uh X1)).2.2.2.1, (br_of (uh OR1) (uh X1)).2.2.2.2.1, (br_of (uh OR1) (uh X1)).2.2.2.2.2.1, (br_of (uh OR1) (uh X1)).2.2.2.2.2.2⟩) (fun hHeld => ?_)
         replace R := hide ((uh R).drew); replace S := hide ((uh S).drew); replace N := hide ((uh N).drew); replace O := hide ((uh O).drew); replace OR1 := hide ((uh OR1).drew); replace EB1 := hide ((uh EB1).drew); replace OR2 := hide ((uh OR2).drew); replace BB := hide ((uh BB).drew)
         have sz101 : Hid (wop.heap.size ≤ wop.drew.heap.size) := Nat.le_refl _
         refine lt 0 69 ?_; refine lt 1 70 ?_; refine lt 2 71 ?_; refine lt 3 72 ?_; refine lt 4 73 ?_; refine lt 5 74 ?_; refine lt 6 75 ?_
         refine lateStep 7 (by kernel_rfl) rfl (by rfl) (fun K hK => ?_)
         go_simp
         have hA : Below wop.drew.heap.size wop.drew (wop.drew.alloc (.cells ((lbC (⟨b, .slice am b.mails.length cm, .slice at1 b.tombs.length ct1⟩ : Lb)) : List Value).toArray 42)) := (Below.refl _ _).alloc (Nat.le_refl _) _
         replace R := hide ((uh R).ups hA); replace S := hide ((uh S).ups hA); replace N := hide ((uh N).ups hA); replace O := hide ((uh O).ups hA); replace OR1 := hide ((uh OR1).up hA); replace EB1 := hide ((uh EB1).up hA); replace OR2 := hide ((uh OR2).up hA); have sz102 := hide (hA.size); replace BB := hide (below_y (uh BB) hA); clear hA
         refine hK.out _ _ (⟨(uh S).cell 0 rfl, (uh O).cell 0 rfl, (br_of (uh OR1) (uh X1)).1, (br_of (uh OR1) (uh X1)).2.1, (br_of (uh OR1) (uh X1)).2.2.1, (br_of (uh OR1) (uh X1)).2.2.2.1, (br_of (uh OR1) (uh X1)).2.2.2.2.1, (br_of (uh OR1) (uh X1)).2.2.2.2.2.1, (br_of (uh OR1) (uh X1)).2.2.2.2.2.2⟩) (fun hHeld2 => ?_)
         clear hK K hHeld; have hHeld := hHeld2; clear hHeld2
         try simp only [Act.put, p1, p2, p3]
         have oa := uh OR2; have ldl := (uh BB).size
         refine lateStep 8 (by kernel_rfl) rfl (by rfl) (fun K hK => ?_)
         refine wp_append_lies _ (.tmp 70) (.tmp 76) 26 rfl (ws11.heap.size) 42 iX _ 7 96 Try.underlying26 hX hX0 hX1 hX2 rfl (by decide) (.slice a2 L2.length c2) _ _ rfl oa ⟨wop.drew.heap.size, 0, none⟩ 1 1 (lbC (⟨b, .slice am b.mails.length cm, .slice at1 b.tombs.length ct1⟩ : Lb)) rfl rfl (newsC _ _) ?c2 (by decide) ?c3 ?c4 ?c5 (wop.drew.heap.size + 1) (by simp) ?_
         case c2 => intro u hu; simp [lbC] at hu; rcases hu with rfl | rfl | rfl | rfl | rfl | rfl | rfl <;> rfl
         case c3 => unfold maxLen; have := uh HLK; omega
         case c4 => have := uh HLK; omega
         case c5 => have q1_ := (uh BB).size; have szL_ := uh szL; have szq_ := uh szq; have sz101_ := uh sz101; have sz102_ := uh sz102; (try simp at q1_); (try simp); omega
         intro gtp1 captp1 wtp1 hown hgr hat hlt_
         have R_ := hide ((uh R).kept hgr (fun e => (uh R).not_row (by decide) oa e.symm))
         have S_ := hide ((uh S).kept hgr (fun e => (uh S).not_row (by decide) oa e.symm))
         have N_ := hide ((uh N).kept hgr (fun e => by have q1_ := (World.ownsRow.lt oa _ e.symm).1; have q2_ := uh LTN; omega))
         have O_ := hide ((uh O).kept hgr (fun e => (uh O).not_row (by decide) oa e.symm))
         have OR1_ : Hid (OwnBr w.heap.size wtp1 (.slice (some ⟨g1, 0, none⟩) n ck) (KL)) := g_aside (uh OR1) hgr (fun x hx hx2 => by have q1_ := uh LTS x hx2; have q2_ := (World.ownsRow.lt oa x hx).1; omega)
         have EB1_ : Hid (EachB w.heap.size wtp1 (KL)) := (uh EB1).aside oa hgr (by decide) (by decide)
         have OR2_ : Hid (OwnBr (ws11.heap.size) wtp1 (.slice (some ⟨gtp1, 0, none⟩) (L2.length + 1) captp1) (L2 ++ [(⟨b, .slice am b.mails.length cm, .slice at1 b.tombs.length ct1⟩ : Lb)])) := by exact OwnBr.snoc hown
         have BB_ : Hid (Below w.heap.size w wtp1) := (uh BB).grown hgr (uh BB).size (fun b hb => by have q2_ := (World.ownsRow.lt oa b hb).1; have szL_ := uh szL; have szq_ := uh szq; have sz101_ := uh sz101; have sz102_ := uh sz102; omega)
         have sz103 : Hid ((wop.drew.alloc (.cells ((lbC (⟨b, .slice am b.mails.length cm, .slice at1 b.tombs.length ct1⟩ : Lb)) : List Value).toArray 42)).heap.size ≤ wtp1.heap.size) := hgr.size
         replace R := R_; clear R_; replace S := S_; clear S_; replace N := N_; clear N_; replace O := O_; clear O_; replace OR1 := OR1_; clear OR1_; replace EB1 := EB1_; clear EB1_; replace OR2 := OR2_; clear OR2_; replace BB := BB_; clear BB_; clear hown hgr hat hlt_ oa ldl
         refine hK.out _ _ (⟨(uh S).cell 0 rfl, (uh O).cell 0 rfl, (br_of (uh OR1) (uh X1)).1, (br_of (uh OR1) (uh X1)).2.1, (br_of (uh OR1) (uh X1)).2.2.1, (br_of (uh OR1) (uh X1)).2.2.2.1, (br_of (uh OR1) (uh X1)).2.2.2.2.1, (br_of (uh OR1) (uh X1)).2.2.2.2.2.1, (br_of (uh OR1) (uh X1)).2.2.2.2.2.2⟩) (fun hHeld2 => ?_)
         clear hK K hHeld; have hHeld := hHeld2; clear hHeld2
         try simp only [Act.put, p1, p2, p3]
         refine lateStep 9 (by kernel_rfl) rfl (by rfl) (fun K hK => ?_)
         go_simp
         refine hK.out _ _ (⟨(uh S).cell 0 rfl, (uh O).cell 0 rfl, (br_of (uh OR1) (uh X1)).1, (br_of (uh OR1) (uh X1)).2.1, (br_of (uh OR1) (uh X1)).2.2.1, (br_of (uh OR1) (uh X1)).2.2.2.1, (br_of (uh OR1) (uh X1)).2.2.2.2.1, (br_of (uh OR1) (uh X1)).2.2.2.2.2.1, (br_of (uh OR1) (uh X1)).2.2.2.2.2.2⟩) (fun hHeld2 => ?_)
         clear hK K hHeld; have hHeld := hHeld2; clear hHeld2
         try simp only [Act.put, p1, p2, p3]
         have Ofz0_10 := (uh O).frozen 0; have Ocz0_10 := (uh O).cell 0 rfl
         obtain ⟨wtp2, hst⟩ : ∃ X, X = wtp1.setCell ⟨ws10.heap.size, 0, none⟩ (.slice (some ⟨gtp1, 0, none⟩) (L2.length + 1) captp1) := ⟨_, rfl⟩
         have OR1_ : Hid (OwnBr w.heap.size wtp2 (.slice (some ⟨g1, 0, none⟩) n ck) (KL)) := by show OwnBr _ _ _ _; rw [hst]; exact (uh O).row (j := 0) (by decide) (uh OR1) _
         have EB1_ : Hid (EachB w.heap.size wtp2 (KL)) := by show EachB _ _ _; rw [hst]; exact (uh EB1).set (j := 0) (uh O) (by decide) (by decide) _
         have OR2_ : Hid (OwnBr ws11.heap.size wtp2 (.slice (some ⟨gtp1, 0, none⟩) (L2.length + 1) captp1) (L2 ++ [(⟨b, .slice am b.mails.length cm, .slice at1 b.tombs.length ct1⟩ : Lb)])) := by show OwnBr _ _ _ _; rw [hst]; exact (uh O).row (j := 0) (by decide) (uh OR2) _
         have R_ := hide ((uh R).other (j := 0) neRO (.slice (some ⟨gtp1, 0, none⟩) (L2.length + 1) captp1))
         rw [← hst] at R_
         have S_ := hide ((uh S).other (j := 0) neSO (.slice (some ⟨gtp1, 0, none⟩) (L2.length + 1) captp1))
         rw [← hst] at S_
         have N_ := hide ((uh N).other (j := 0) neNO (.slice (some ⟨gtp1, 0, none⟩) (L2.length + 1) captp1))
         rw [← hst] at N_
         have O_ := hide ((uh O).set 0 (.slice (some ⟨gtp1, 0, none⟩) (L2.length + 1) captp1))
         rw [← hst] at O_
         have BB_ := hide ((uh BB).setCell (p := ⟨ws10.heap.size, 0, none⟩) (show w.heap.size ≤ ws10.heap.size from loO) (.slice (some ⟨gtp1, 0, none⟩) (L2.length + 1) captp1))
         rw [← hst] at BB_
         have sz104 : Hid (wtp1.heap.size ≤ wtp2.heap.size) := by show _ ≤ _; rw [hst]; simp
         replace OR1 := OR1_; clear OR1_; replace EB1 := EB1_; clear EB1_; replace OR2 := OR2_; clear OR2_; replace R := R_; clear R_; replace S := S_; clear S_; replace N := N_; clear N_; replace O := O_; clear O_; replace BB := BB_; clear BB_; have Est104 := hst.symm; clear hst
         refine lateLast 10 (by decide) (by kernel_rfl) rfl (by rfl) (fun K hK => ?_)
         go_simp
         refine hK.out _ _ ?_
         clear hK K hHeld
         try simp only [Act.put, p1, p2, p3]
         try rw [Est104]
         clear Ofz0_10 Ocz0_10 Est104
         refine lateDone (by kernel_rfl) ?_ _
         have e9 : L2.length + 1 = (L2 ++ [(⟨b, .slice am b.mails.length cm, .slice at1 b.tombs.length ct1⟩ : Lb)]).length := by simp
         rw [e9] at O OR2
         clear e9
         go_wp2
         go_roundw
         case rel => rw [uh HRELp]; exact ⟨k + 1, _, _, _, by omega, by go_num, uh NX2, uh R, uh S, uh O, uh N, uh OR1, uh EB1, uh OR2, uh BB, (by show _ ≤ _; have szL_ := uh szL; have szq_ := uh szq; have sz101_ := uh sz101; have sz102_ := uh sz102; have sz103_ := uh sz103; have sz104_ := uh sz104; omega)⟩
         case measure => simp [intOf]; omega
       ·have hkn : k = n := by omega
        rw [hkn] at HL2 ⊢
        have R := hide oR; have S := hide oS; have O := hide oO; have N := hide oN; have OR1 := hide o1; have EB1 := hide oe; have OR2 := hide o2; have BB := hide hbel; have szq := hide hsz
        have FL : Hid (L2 = [] ++ KL.filter (fun x => ltB x.b.name name)) := by show _ = _; rw [uh HL2, List.take_of_length_le (by have := uh HNK; omega)]
        clear oR oS oO oN o1 oe o2 hbel hsz HL2 hlt hk hkn
        have LL2 : Hid (L2.length ≤ 4) := by show _ ≤ _; rw [uh FL, List.nil_append]; exact Nat.le_trans (List.length_filter_le _ _) (by have := uh HNK; omega)
        have Sc0_8 := (uh S).cell 0 rfl; have Sc1_8 := (uh S).cell 1 rfl; have Oc0_9 := (uh O).cell 0 rfl; have Oc1_9 := (uh O).cell 1 rfl; have Nc0_10 := (uh N).cell 0 rfl; have Nc1_10 := (uh N).cell 1 rfl; have Nc2_10 := (uh N).cell 2 rfl; have Nc3_10 := (uh N).cell 3 rfl; have Nc4_10 := (uh N).cell 4 rfl; have Nc5_10 := (uh N).cell 5 rfl; have Nc6_10 := (uh N).cell 6 rfl; have lw1 := (uh BB).size
        go_wp2_with (at_builtin; refine wpList_append_lies _ rfl _ _ 26 rfl ws11.heap.size 42 iX _ 7 96 Try.underlying26 hX hX0 hX1 hX2 rfl (by decide) _ _ _ rfl (World.ownsRow.alloc (uh OR2) _) ⟨wop.heap.size, 0, none⟩ 1 1 (lbC (⟨newBox name s.valid, .slice none 0 0, .slice none 0 0⟩ : Lb)) rfl rfl (newsC _ _) ?c2 (by decide) ?c3 ?c4 ?c5 (wop.heap.size + 1) (by simp) ?_)
        clear Sc0_8 Sc1_8 Oc0_9 Oc1_9 Nc0_10 Nc1_10 Nc2_10 Nc3_10 Nc4_10 Nc5_10 Nc6_10
        case c2 => intro u hu; simp [lbC] at hu; rcases hu with rfl | rfl | rfl | rfl | rfl | rfl | rfl <;> rfl
        case c3 => unfold maxLen; have := uh LL2; omega
        case c4 => have := uh LL2; omega
        case c5 => have q1_ := (uh BB).size; have szL_ := uh szL; have szq_ := uh szq; simp; omega
        intro gOR21 capOR21 wbp1 hown hgr hat hlt_
        have oa := World.ownsRow.alloc (uh OR2) (.cells ((lbC (⟨newBox name s.valid, .slice none 0 0, .slice none 0 0⟩ : Lb)) : List Value).toArray 42)
        have R_ := hide (((uh R).alloc (.cells ((lbC (⟨newBox name s.valid, .slice none 0 0, .slice none 0 0⟩ : Lb)) : List Value).toArray 42)).kept hgr (fun e => ((uh R).alloc (.cells ((lbC (⟨newBox name s.valid, .slice none 0 0, .slice none 0 0⟩ : Lb)) : List Value).toArray 42)).not_row (by decide) oa e.symm))
        have S_ := hide (((uh S).alloc (.cells ((lbC (⟨newBox name s.valid, .slice none 0 0, .slice none 0 0⟩ : Lb)) : List Value).toArray 42)).kept hgr (fun e => ((uh S).alloc (.cells ((lbC (⟨newBox name s.valid, .slice none 0 0, .slice none 0 0⟩ : Lb)) : List Value).toArray 42)).not_row (by decide) oa e.symm))
        have N_ := hide (((uh N).alloc (.cells ((lbC (⟨newBox name s.valid, .slice none 0 0, .slice none 0 0⟩ : Lb)) : List Value).toArray 42)).kept hgr (fun e => by have q1_ := (World.ownsRow.lt oa _ e.symm).1; have q2_ := uh LTN; omega))
        have O_ := hide (((uh O).alloc (.cells ((lbC (⟨newBox name s.valid, .slice none 0 0, .slice none 0 0⟩ : Lb)) : List Value).toArray 42)).kept hgr (fun e => ((uh O).alloc (.cells ((lbC (⟨newBox name s.valid, .slice none 0 0, .slice none 0 0⟩ : Lb)) : List Value).toArray 42)).not_row (by decide) oa e.symm))
        have OR1_ : Hid (OwnBr w.heap.size wbp1 (.slice ak n ck) (KL)) := g_aside (World.ownsRow.alloc (uh OR1) (.cells ((lbC (⟨newBox name s.valid, .slice none 0 0, .slice none 0 0⟩ : Lb)) : List Value).toArray 42)) hgr (fun x hx hx2 => by have q1_ := uh LTS x hx2; have q2_ := (World.ownsRow.lt oa x hx).1; omega)
        have EB1_ : Hid (EachB w.heap.size wbp1 (KL)) := ((uh EB1).up ((Below.refl _ _).alloc (Nat.le_refl _) (.cells ((lbC (⟨newBox name s.valid, .slice none 0 0, .slice none 0 0⟩ : Lb)) : List Value).toArray 42))).aside oa hgr (by decide) (by decide)
        have OR2_ : Hid (OwnBr ws11.heap.size wbp1 (.slice (some ⟨gOR21, 0, none⟩) (L2.length + 1) capOR21) (L2 ++ [(⟨newBox name s.valid, .slice none 0 0, .slice none 0 0⟩ : Lb)])) := by exact OwnBr.snoc hown
        have BB_ : Hid (Below w.heap.size w wbp1) := ((uh BB).alloc (uh BB).size _).grown hgr (by have q1_ := (uh BB).size; simp; omega) (fun b hb => by have q2_ := (World.ownsRow.lt (uh OR2) b hb).1; have q1_ := (uh BB).size; have szL_ := uh szL; have szq_ := uh szq; omega)
        have sz201 : Hid (wop.heap.size ≤ wbp1.heap.size) := by have q3_ := hgr.size; simp at q3_; show _ ≤ _; omega
        replace R := R_; clear R_; replace S := S_; clear S_; replace N := N_; clear N_; replace O := O_; clear O_; replace OR1 := OR1_; clear OR1_; replace EB1 := EB1_; clear EB1_; replace OR2 := OR2_; clear OR2_; replace BB := BB_; clear BB_; clear hown hgr oa lw1 hat hlt_; have Ofz0_11 := (uh O).frozen 0; have Ocz0_11 := (uh O).cell 0 rfl
        obtain ⟨wbp2, hst⟩ : ∃ X, X = wbp1.setCell ⟨ws10.heap.size, 0, none⟩ ((.slice (some ⟨gOR21, 0, none⟩) (L2.length + 1) capOR21)) := ⟨_, rfl⟩
        have OR1_ : Hid (OwnBr w.heap.size wbp2 (.slice ak n ck) (KL)) := by show OwnBr _ _ _ _; rw [hst]; exact (uh O).row (j := 0) (by decide) (uh OR1) _
        have EB1_ : Hid (EachB w.heap.size wbp2 (KL)) := by show EachB _ _ _; rw [hst]; exact (uh EB1).set (j := 0) (uh O) (by decide) (by decide) _
        have OR2_ : Hid (OwnBr ws11.heap.size wbp2 ((.slice (some ⟨gOR21, 0, none⟩) (L2.length + 1) capOR21)) (L2 ++ [(⟨newBox name s.valid, .slice none 0 0, .slice none 0 0⟩ : Lb)])) := by show OwnBr _ _ _ _; rw [hst]; exact (uh O).row (j := 0) (by decide) (uh OR2) _
        have R_ := hide ((uh R).other (j := 0) neRO ((.slice (some ⟨gOR21, 0, none⟩) (L2.length + 1) capOR21)))
        rw [← hst] at R_
        have S_ := hide ((uh S).other (j := 0) neSO ((.slice (some ⟨gOR21, 0, none⟩) (L2.length + 1) capOR21)))
        rw [← hst] at S_
        have N_ := hide ((uh N).other (j := 0) neNO ((.slice (some ⟨gOR21, 0, none⟩) (L2.length + 1) capOR21)))
        rw [← hst] at N_
        have O_ := hide ((uh O).set 0 ((.slice (some ⟨gOR21, 0, none⟩) (L2.length + 1) capOR21)))
        rw [← hst] at O_
        have BB_ := hide ((uh BB).setCell (p := ⟨ws10.heap.size, 0, none⟩) (show w.heap.size ≤ ws10.heap.size from loO) ((.slice (some ⟨gOR21, 0, none⟩) (L2.length + 1) capOR21)))
        rw [← hst] at BB_
        have sz202 : Hid (wbp1.heap.size ≤ wbp2.heap.size) := by show _ ≤ _; rw [hst]; simp
        replace OR1 := OR1_; clear OR1_; replace EB1 := EB1_; clear EB1_; replace OR2 := OR2_; clear OR2_; replace R := R_; clear R_; replace S := S_; clear S_; replace N := N_; clear N_; replace O := O_; clear O_; replace BB := BB_; clear BB_; have Est202 := hst.symm; clear hst
        obtain ⟨LM, hLM⟩ : ∃ z, z = L2 ++ [(⟨newBox name s.valid, .slice none 0 0, .slice none 0 0⟩ : Lb)] := ⟨_, rfl⟩
        have e9 : L2.length + 1 = LM.length := by rw [hLM]; simp
        rw [← hLM, e9] at OR2
        rw [e9] at O
        have HLM : Hid (LM.length ≤ 5) := by have := uh LL2; show _ ≤ _; omega
        have FM : Hid (LM = KL.filter (fun x => ltB x.b.name name) ++ [(⟨newBox name s.valid, .slice none 0 0, .slice none 0 0⟩ : Lb)]) := by show _ = _; rw [hLM, uh FL, List.nil_append]
        clear hLM e9 FL LL2
        have szq2 : Hid (ws11.heap.size ≤ wbp2.heap.size) := by show _ ≤ _; have szL_ := uh szL; have szq_ := uh szq; have sz201_ := uh sz201; have sz202_ := uh sz202; omega
        clear szq; have szq := szq2; clear szq2; have Sc0_12 := (uh S).cell 0 rfl; have Sc1_12 := (uh S).cell 1 rfl; have Oc0_13 := (uh O).cell 0 rfl; have Oc1_13 := (uh O).cell 1 rfl
        go_wp2
        clear Ofz0_11 Ocz0_11 Sc0_12 Sc1_12 Oc0_13 Oc1_13 Est202
        obtain ⟨RELq, HRELq⟩ : ∃ REL : Value → World → Prop, Hid (REL = fun i wr => ∃ (k : Nat) (L2 : List Lb) (a2 : Option Addr) (c2 : Nat), k ≤ n ∧ i = .int .i64 k ∧ L2 = LM ++ (KL.take k).filter (fun x => ltB name x.b.name) ∧ HasObj wr (ws1.heap.size) 28 [.slice none 0 0, .int .i64 0] ∧ HasObj wr (ws3.heap.size) 28 [.slice ak n ck, .int .i64 s.valid] ∧ HasObj wr (ws10.heap.size) 28 [.slice a2 L2.length c2, .int .i64 (s.valid + 1)] ∧ OwnBr w.heap.size wr (.slice ak n ck) KL ∧ EachB w.heap.size wr KL ∧ OwnBr ws11.heap.size wr (.slice a2 L2.length c2) L2 ∧ Below w.heap.size w wr ∧ ws11.heap.size ≤ wr.heap.size) := ⟨_, hide rfl⟩
        go_loopw [13] (fun i wr => RELq i wr) (fun i _ => n - (intOf i).toNat)
        case atStart => rw [uh HRELq]; exact ⟨0, LM, (some ⟨gOR21, 0, none⟩), capOR21, Nat.zero_le _, rfl, by simp, uh R, uh S, uh O, uh OR1, uh EB1, uh OR2, uh BB, uh szq⟩
        clear OR1 EB1 OR2 BB szq R S N O
        case round =>
         rw [uh HRELq] at hrel
         obtain ⟨k, L2, a2, c2, hk, rfl, hL2, oR, oS, oO, o1, oe, o2, hbel, hsz⟩ := hrel
         obtain ⟨woq, hwo⟩ : ∃ wo, wo = wr := ⟨_, rfl⟩
         subst hwo
         have HL2 := hide hL2; clear hL2
         by_cases hlt : k < n
         ·have hkl : k < KL.length := by rw [uh HNK]; exact hlt
          have hx : KL[k]? = some KL[k] := List.getElem?_eq_getElem hkl
          have hmx := List.getElem_mem hkl
          obtain ⟨g1, q1, e3, _, _, _⟩ := br_read o1 hx
          have e5 := (Value.slice.inj e3).1; clear e3
          subst e5
          generalize KL[k] = x at *
          obtain ⟨b, m, t⟩ := x
          obtain ⟨am, cm, ee1⟩ := g_shape (oe _ hmx).1
          obtain ⟨at1, ct1, ee2⟩ := g_shape (oe _ hmx).2
          simp only at ee1 ee2
          subst ee1 ee2
          have R := hide oR; have S := hide oS; have O := hide oO; have OR1 := hide o1; have EB1 := hide oe; have OR2 := hide o2; have BB := hide hbel; have X1 := hide hx; have szq := hide hsz
          have NX := hide (filter_take (fun x => ltB name x.b.name) hx)
          have HLK : Hid (L2.length ≤ k + 10) := by show _ ≤ _; rw [uh HL2, List.length_append]; exact Nat.le_trans (Nat.add_le_add_left (List.length_filter_le _ _) _) (by rw [List.length_take]; have q9_ := uh HLM; omega)
          clear oR oS oO o1 oe o2 hbel hx hmx hsz
          have i1 : (0 : Int) ≤ (k : Int) := by omega
          have i2 : (k : Int) < (n : Int) := by omega
          have ec0 := (br_of (uh OR1) (uh X1)).1
          simp only at ec0
          have Sc0_14 := (uh S).cell 0 rfl; have Sc1_14 := (uh S).cell 1 rfl
          cases hd : ltB name b.name with
          | false =>
           have NX2 : Hid (L2 = LM ++ (KL.take (k + 1)).filter (fun x => ltB name x.b.name)) := by show _ = _; rw [uh NX, if_neg (show ¬ (ltB name b.name = true) by rw [hd]; decide), List.append_nil]; exact uh HL2
           go_wp2
           go_roundw
           case rel => rw [uh HRELq]; exact ⟨k + 1, L2, _, _, by omega, by go_num, uh NX2, uh R, uh S, uh O, uh OR1, uh EB1, uh OR2, uh BB, (by show _ ≤ _; have szL_ := uh szL; have szq_ := uh szq; omega)⟩
           case measure => simp [intOf]; omega
          | true =>
           have Oc0_15 := (uh O).cell 0 rfl; have Oc1_15 := (uh O).cell 1 rfl
           go_wp2
           clear ec0 Sc0_14 Sc1_14 Oc0_15 Oc1_15
           have NX2 : Hid (L2 ++ [(⟨b, .slice am b.mails.length cm, .slice at1 b.tombs.length ct1⟩ : Lb)] = LM ++ (KL.take (k + 1)).filter (fun x => ltB name x.b.name)) := by show _ = _; rw [uh NX, if_pos (show ltB name b.name = true from hd), ← List.append_assoc, ← uh HL2]
           clear hd
           refine lateBegin (S := fun w' => w'.cell? ⟨ws3.heap.size, 0, none⟩ = some (.slice (some ⟨g1, 0, none⟩) n ck) ∧ w'.cell? ⟨ws10.heap.size, 0, none⟩ = some (.slice a2 L2.length c2) ∧ w'.cell? ⟨g1, k * 7, none⟩ = some (.string b.name) ∧ w'.cell? ⟨g1, k * 7 + 1, none⟩ = some (.int .i64 b.valid) ∧ w'.cell? ⟨g1, k * 7 + 2, none⟩ = some (.int .i64 b.next) ∧ w'.cell? ⟨g1, k * 7 + 3, none⟩ = some (.int .i64 b.mod) ∧ w'.cell? ⟨g1, k * 7 + 4, none⟩ = some (.slice am b.mails.length cm) ∧ w'.cell? ⟨g1, k * 7 + 5, none⟩ = some (.slice at1 b.tombs.length ct1) ∧ w'.cell? ⟨g1, k * 7 + 6, none⟩ = some (.int .i64 b.hor)) 10 (by kernel_rfl) (⟨(uh S).cell 0 rfl, (uh O).cell 0 rfl, (br_of (uh OR1) (uh X1)).1, (br_of (uh OR1) (uh X1)).2.1, (br_of (uh OR1) (uh X1)).2.2.1, (br_of (uh OR1) (uh X1)).2.2.2.1, (br_of (uh OR1) (uh X1)).2.2.2.2.1, (br_of (uh OR1) (uh X1)).2.2.2.2.2.1, (br_of (uh OR1) (uh X1)).2.2.2.2.2.2⟩) (fun hHeld => ?_)
           replace R := hide ((uh R).drew); replace S := hide ((uh S).drew); replace O := hide ((uh O).drew); replace OR1 := hide ((uh OR1).drew); replace EB1 := hide ((uh EB1).drew); replace OR2 := hide ((uh OR2).drew); replace BB := hide ((uh BB).drew)
           have sz101 : Hid (woq.heap.size ≤ woq.drew.heap.size) := Nat.le_refl _
           refine lt 0 100 ?_; refine lt 1 101 ?_; refine lt 2 102 ?_; refine lt 3 103 ?_; refine lt 4 104 ?_; refine lt 5 105 ?_; refine lt 6 106 ?_
           refine lateStep 7 (by kernel_rfl) rfl (by rfl) (fun K hK => ?_)
           go_simp
           have hA : Below woq.drew.heap.size woq.drew (woq.drew.alloc (.cells ((lbC (⟨b, .slice am b.mails.length cm, .slice at1 b.tombs.length ct1⟩ : Lb)) : List Value).toArray 42)) := (Below.refl _ _).alloc (Nat.le_refl _) _
           replace R := hide ((uh R).ups hA); replace S := hide ((uh S).ups hA); replace O := hide ((uh O).ups hA); replace OR1 := hide ((uh OR1).up hA); replace EB1 := hide ((uh EB1).up hA); replace OR2 := hide ((uh OR2).up hA); have sz102 := hide (hA.size); replace BB := hide (below_y (uh BB) hA); clear hA
           refine hK.out _ _ (⟨(uh S).cell 0 rfl, (uh O).cell 0 rfl, (br_of (uh OR1) (uh X1)).1, (br_of (uh OR1) (uh X1)).2.1, (br_of (uh OR1) (uh X1)).2.2.1, (br_of (uh OR1) (uh X1)).2.2.2.1, (br_of (uh OR1) (uh X1)).2.2.2.2.1, (br_of (uh OR1) (uh X1)).2.2.2.2.2.1, (br_of (uh OR1) (uh X1)).2.2.2.2.2.2⟩) (fun hHeld2 => ?_)
           clear hK K hHeld; have hHeld := hHeld2; clear hHeld2
           try simp only [Act.put, p1, p2, p3]
           have oa := uh OR2; have ldl := (uh BB).size
           refine lateStep 8 (by kernel_rfl) rfl (by rfl) (fun K hK => ?_)
           refine wp_append_lies _ (.tmp 101) (.tmp 107) 26 rfl (ws11.heap.size) 42 iX _ 7 96 Try.underlying26 hX hX0 hX1 hX2 rfl (by decide) (.slice a2 L2.length c2) _ _ rfl oa ⟨woq.drew.heap.size, 0, none⟩ 1 1 (lbC (⟨b, .slice am b.mails.length cm, .slice at1 b.tombs.length ct1⟩ : Lb)) rfl rfl (newsC _ _) ?c2 (by decide) ?c3 ?c4 ?c5 (woq.drew.heap.size + 1) (by simp) ?_
           case c2 => intro u hu; simp [lbC] at hu; rcases hu with rfl | rfl | rfl | rfl | rfl | rfl | rfl <;> rfl
           case c3 => unfold maxLen; have := uh HLK; omega
           case c4 => have := uh HLK; omega
           case c5 => have q1_ := (uh BB).size; have szL_ := uh szL; have szq_ := uh szq; have sz101_ := uh sz101; have sz102_ := uh sz102; (try simp at q1_); (try simp); omega
           intro gtq1 captq1 wtq1 hown hgr hat hlt_
           have R_ := hide ((uh R).kept hgr (fun e => (uh R).not_row (by decide) oa e.symm))
           have S_ := hide ((uh S).kept hgr (fun e => (uh S).not_row (by decide) oa e.symm))
           have O_ := hide ((uh O).kept hgr (fun e => (uh O).not_row (by decide) oa e.symm))
           have OR1_ : Hid (OwnBr w.heap.size wtq1 (.slice (some ⟨g1, 0, none⟩) n ck) (KL)) := g_aside (uh OR1) hgr (fun x hx hx2 => by have q1_ := uh LTS x hx2; have q2_ := (World.ownsRow.lt oa x hx).1; omega)
           have EB1_ : Hid (EachB w.heap.size wtq1 (KL)) := (uh EB1).aside oa hgr (by decide) (by decide)
           have OR2_ : Hid (OwnBr (ws11.heap.size) wtq1 (.slice (some ⟨gtq1, 0, none⟩) (L2.length + 1) captq1) (L2 ++ [(⟨b, .slice am b.mails.length cm, .slice at1 b.tombs.length ct1⟩ : Lb)])) := by exact OwnBr.snoc hown
           have BB_ : Hid (Below w.heap.size w wtq1) := (uh BB).grown hgr (uh BB).size (fun b hb => by have q2_ := (World.ownsRow.lt oa b hb).1; have szL_ := uh szL; have szq_ := uh szq; have sz101_ := uh sz101; have sz102_ := uh sz102; omega)
           have sz103 : Hid ((woq.drew.alloc (.cells ((lbC (⟨b, .slice am b.mails.length cm, .slice at1 b.tombs.length ct1⟩ : Lb)) : List Value).toArray 42)).heap.size ≤ wtq1.heap.size) := hgr.size
           replace R := R_; clear R_; replace S := S_; clear S_; replace O := O_; clear O_; replace OR1 := OR1_; clear OR1_; replace EB1 := EB1_; clear EB1_; replace OR2 := OR2_; clear OR2_; replace BB := BB_; clear BB_; clear hown hgr hat hlt_ oa ldl
           refine hK.out _ _ (⟨(uh S).cell 0 rfl, (uh O).cell 0 rfl, (br_of (uh OR1) (uh X1)).1, (br_of (uh OR1) (uh X1)).2.1, (br_of (uh OR1) (uh X1)).2.2.1, (br_of (uh OR1) (uh X1)).2.2.2.1, (br_of (uh OR1) (uh X1)).2.2.2.2.1, (br_of (uh OR1) (uh X1)).2.2.2.2.2.1, (br_of (uh OR1) (uh X1)).2.2.2.2.2.2⟩) (fun hHeld2 => ?_)
           clear hK K hHeld; have hHeld := hHeld2; clear hHeld2
           try simp only [Act.put, p1, p2, p3]
           refine lateStep 9 (by kernel_rfl) rfl (by rfl) (fun K hK => ?_)
           go_simp
           refine hK.out _ _ (⟨(uh S).cell 0 rfl, (uh O).cell 0 rfl, (br_of (uh OR1) (uh X1)).1, (br_of (uh OR1) (uh X1)).2.1, (br_of (uh OR1) (uh X1)).2.2.1, (br_of (uh OR1) (uh X1)).2.2.2.1, (br_of (uh OR1) (uh X1)).2.2.2.2.1, (br_of (uh OR1) (uh X1)).2.2.2.2.2.1, (br_of (uh OR1) (uh X1)).2.2.2.2.2.2⟩) (fun hHeld2 => ?_)
           clear hK K hHeld; have hHeld := hHeld2; clear hHeld2
           try simp only [Act.put, p1, p2, p3]
           have Ofz0_16 := (uh O).frozen 0; have Ocz0_16 := (uh O).cell 0 rfl
           obtain ⟨wtq2, hst⟩ : ∃ X, X = wtq1.setCell ⟨ws10.heap.size, 0, none⟩ (.slice (some ⟨gtq1, 0, none⟩) (L2.length + 1) captq1) := ⟨_, rfl⟩
           have OR1_ : Hid (OwnBr w.heap.size wtq2 (.slice (some ⟨g1, 0, none⟩) n ck) (KL)) := by show OwnBr _ _ _ _; rw [hst]; exact (uh O).row (j := 0) (by decide) (uh OR1) _
           have EB1_ : Hid (EachB w.heap.size wtq2 (KL)) := by show EachB _ _ _; rw [hst]; exact (uh EB1).set (j := 0) (uh O) (by decide) (by decide) _
           have OR2_ : Hid (OwnBr ws11.heap.size wtq2 (.slice (some ⟨gtq1, 0, none⟩) (L2.length + 1) captq1) (L2 ++ [(⟨b, .slice am b.mails.length cm, .slice at1 b.tombs.length ct1⟩ : Lb)])) := by show OwnBr _ _ _ _; rw [hst]; exact (uh O).row (j := 0) (by decide) (uh OR2) _
           have R_ := hide ((uh R).other (j := 0) neRO (.slice (some ⟨gtq1, 0, none⟩) (L2.length + 1) captq1))
           rw [← hst] at R_
           have S_ := hide ((uh S).other (j := 0) neSO (.slice (some ⟨gtq1, 0, none⟩) (L2.length + 1) captq1))
           rw [← hst] at S_
           have O_ := hide ((uh O).set 0 (.slice (some ⟨gtq1, 0, none⟩) (L2.length + 1) captq1))
           rw [← hst] at O_
           have BB_ := hide ((uh BB).setCell (p := ⟨ws10.heap.size, 0, none⟩) (show w.heap.size ≤ ws10.heap.size from loO) (.slice (some ⟨gtq1, 0, none⟩) (L2.length + 1) captq1))
           rw [← hst] at BB_
           have sz104 : Hid (wtq1.heap.size ≤ wtq2.heap.size) := by show _ ≤ _; rw [hst]; simp
           replace OR1 := OR1_; clear OR1_; replace EB1 := EB1_; clear EB1_; replace OR2 := OR2_; clear OR2_; replace R := R_; clear R_; replace S := S_; clear S_; replace O := O_; clear O_; replace BB := BB_; clear BB_; have Est104 := hst.symm; clear hst
           refine lateLast 10 (by decide) (by kernel_rfl) rfl (by rfl) (fun K hK => ?_)
           go_simp
           refine hK.out _ _ ?_
           clear hK K hHeld
           try simp only [Act.put, p1, p2, p3]
           try rw [Est104]
           clear Ofz0_16 Ocz0_16 Est104
           refine lateDone (by kernel_rfl) ?_ _
           have e9 : L2.length + 1 = (L2 ++ [(⟨b, .slice am b.mails.length cm, .slice at1 b.tombs.length ct1⟩ : Lb)]).length := by simp
           rw [e9] at O OR2
           clear e9
           go_wp2
           go_roundw
           case rel => rw [uh HRELq]; exact ⟨k + 1, _, _, _, by omega, by go_num, uh NX2, uh R, uh S, uh O, uh OR1, uh EB1, uh OR2, uh BB, (by show _ ≤ _; have szL_ := uh szL; have szq_ := uh szq; have sz101_ := uh sz101; have sz102_ := uh sz102; have sz103_ := uh sz103; have sz104_ := uh sz104; omega)⟩
           case measure => simp [intOf]; omega
         ·have hkn : k = n := by omega
          rw [hkn] at HL2 ⊢
          have R := hide oR; have S := hide oS; have O := hide oO; have OR1 := hide o1; have EB1 := hide oe; have OR2 := hide o2; have BB := hide hbel; have szq := hide hsz
          have FL : Hid (L2 = LM ++ KL.filter (fun x => ltB name x.b.name)) := by show _ = _; rw [uh HL2, List.take_of_length_le (by have := uh HNK; omega)]
          clear oR oS oO o1 oe o2 hbel hsz HL2 hlt hk hkn
          have DM : Hid (L2.map (·.b) = madeL s.boxes name s.valid) := by show _ = _; rw [uh FL, uh FM]; exact made_map KL name s.valid _ (uh HK)
          have LE : Hid (∀ x ∈ L2, x ∈ KL ∨ x = (⟨newBox name s.valid, .slice none 0 0, .slice none 0 0⟩ : Lb)) := fun x hx => by rw [uh FL, uh FM] at hx; rcases List.mem_append.1 hx with h9 | h9; rcases List.mem_append.1 h9 with h8 | h8; exact .inl (List.mem_filter.1 h8).1; exact .inr (by simpa using h8); exact .inl (List.mem_filter.1 h9).1
          have OR3 : Hid (OwnBr w.heap.size woq (.slice a2 L2.length c2) L2) := OwnBr.based (uh OR2) (uh szL)
          have Oc0_14 := (uh O).cell 0 rfl; have Oc1_14 := (uh O).cell 1 rfl; have Sc0_15 := (uh S).cell 0 rfl; have Sc1_15 := (uh S).cell 1 rfl; have Rf0 := (uh R).frozen 0; have Rf1 := (uh R).frozen 1; have Re0 := (uh R).cell 0 rfl; have Re1 := (uh R).cell 1 rfl; have F := hide (fill2 (uh R) (.slice a2 L2.length c2) (.int .i64 (s.valid + 1)))
          obtain ⟨U, hU⟩ : ∃ U, U = ((woq.setCell ⟨ws1.heap.size, 0, none⟩ (.slice a2 L2.length c2)).setCell ⟨ws1.heap.size, 1, none⟩ (.int .i64 (s.valid + 1))) := ⟨_, rfl⟩
          have F9 := uh F
          rw [← hU] at F9
          have EU := hU.symm; clear F hU; have v0 := F9.obj.cell 0 rfl; have v1 := F9.obj.cell 1 rfl; have F := hide F9; clear F9
          go_wp2_with (refine bodyPost_ret (by simp [results, Try.results5, go_sem, v0, v1]; try rfl) rfl ?_)
          clear EU; have F := uh F
          rw [uh ANS]
          refine ⟨_, rfl, ⟨L2, uh DM, ⟨F.row (by decide) (uh OR3), fun x hx => ?_⟩⟩, F.below loR (uh BB)⟩
          rcases uh LE x hx with h9 | h9
          ·exact ⟨F.row (by decide) ((uh EB1) x h9).1, F.row (by decide) ((uh EB1) x h9).2⟩
          ·subst h9; exact ⟨World.ownsRow_nil _ _ _ _, World.ownsRow_nil _ _ _ _⟩
end Go.Proofs.Ytanapiaobpoebaa
