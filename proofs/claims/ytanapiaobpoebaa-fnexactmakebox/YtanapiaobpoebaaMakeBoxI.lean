/- The program's MakeBox. Made by gen_stores.py. -/
import Derived.Test.YtanapiaobpoebaaMakePlain
import Derived.Test.YtanapiaobpoebaaAddI
import Derived.Test.YtanapiaobpoebaaOpA
import Derived.Test.YtanapiaobpoebaaStoreOkI
namespace Go.Proofs.Ytanapiaobpoebaa
open Go.RowKit
open Plain
set_option linter.unusedVariables false
set_option linter.unusedSimpArgs false

theorem madeL_at {l : List Bx} {n : ByteArray} {v : Int} {k : Nat} (ha : l.Pairwise fun p b => ltB p.name b.name = true) (hk : k ≤ l.length) (h1 : ∀ b ∈ l.take k, ltB b.name n = true) (h2 : ∀ b, l[k]? = some b → ltB b.name n = false) (hn : ∀ b ∈ l, sameN n b = false) : madeL l n v = l.take k ++ newBox n v :: l.drop k := by
 have e1 : ∀ b ∈ l.drop k, ltB b.name n = false ∧ ltB n b.name = true := by
  intro b hb
  obtain ⟨i, hi⟩ := List.mem_iff_getElem?.1 hb
  rw [List.getElem?_drop] at hi
  have hne : b.name ≠ n := fun e => by have h9 := hn b (List.mem_of_getElem? hi); rw [sameN_iff.2 e] at h9; cases h9
  have hf : ltB b.name n = false := by
   cases i with
   | zero => exact h2 b hi
   | succ i =>
    cases h9 : ltB b.name n with
    | false => rfl
    | true =>
     obtain ⟨hlt, rfl⟩ := List.getElem?_eq_some_iff.1 hi
     have h8 := List.pairwise_iff_getElem.1 ha k (k + (i + 1)) (by omega) hlt (by omega)
     have h7 := h2 l[k] (List.getElem?_eq_getElem (by omega))
     rw [ltB_trans h8 h9] at h7
     cases h7
  refine ⟨hf, ?_⟩
  rcases ltB_total hne with h9 | h9
  ·rw [hf] at h9; cases h9
  ·exact h9
 have e2 : ∀ b ∈ l.take k, ltB n b.name = false := fun b hb => by
  cases h9 : ltB n b.name with
  | false => rfl
  | true => have h8 := ltB_trans h9 (h1 b hb); rw [ltB_irrefl] at h8; cases h8
 unfold madeL
 rw [← List.take_append_drop k l, List.filter_append, List.filter_append, List.filter_eq_self.2 h1, List.filter_eq_nil_iff.2 (fun b hb => by rw [(e1 b hb).1]; decide), List.filter_eq_nil_iff.2 (fun b hb => by rw [e2 b hb]; decide), List.filter_eq_self.2 (fun b hb => (e1 b hb).2), List.take_append_drop]
 simp
theorem put_blocks (P : List (Lb × Nat)) (p : Lb × Nat) (k : Nat) : (P.take k ++ p :: P.drop k).map (·.2) = (P.map (·.2)).take k ++ p.2 :: (P.map (·.2)).drop k := by
 rw [List.map_append, List.map_cons, List.map_take, List.map_drop]
theorem put_boxes {P : List (Lb × Nat)} {s : Sx} {p : Lb × Nat} {k : Nat} (h : P.map (·.1.b) = s.boxes) : (P.take k ++ p :: P.drop k).map (·.1.b) = s.boxes.take k ++ p.1.b :: s.boxes.drop k := by
 rw [List.map_append, List.map_cons, List.map_take, List.map_drop, h]
theorem put_sub {P : List (Lb × Nat)} {p q : Lb × Nat} {k : Nat} (h : q ∈ P.take k ++ p :: P.drop k) : q ∈ P ++ [p] := by
 rcases List.mem_append.1 h with h | h
 ·exact List.mem_append_left _ (List.mem_of_mem_take h)
 ·rcases List.mem_cons.1 h with rfl | h
  ·exact List.mem_append_right _ List.mem_cons_self
  ·exact List.mem_append_left _ (List.mem_of_mem_drop h)
theorem put_aside {P : List (Lb × Nat)} {p : Lb × Nat} {k : Nat} (h : P.Pairwise AsideB) (hp : ∀ z ∈ P, AsideB z p) : (P.take k ++ p :: P.drop k).Pairwise AsideB := by
 have h1 := (List.take_append_drop k P).symm ▸ h
 rw [List.pairwise_append] at h1
 have hs : ∀ z ∈ P, AsideB p z := fun z hz => ⟨(hp z hz).1.symm, (hp z hz).2.symm⟩
 rw [List.pairwise_append, List.pairwise_cons]
 refine ⟨h1.1, ⟨fun z hz => hs z (List.mem_of_mem_drop hz), h1.2.1⟩, fun z hz z2 hz2 => ?_⟩
 rcases List.mem_cons.1 hz2 with rfl | h2
 ·exact hp z (List.mem_of_mem_take hz)
 ·exact h1.2.2 z hz z2 h2
theorem OpenSt.not_made {B q c : Nat} {W : World} {v : Value} {mb : Nat} {P : List (Lb × Nat)} {t u : TypeId} {vs us : List Value} (h : OpenSt B W v mb P) (ho : HasObj W c t vs) (hq : HasObj W q u us) (h1 : t ≠ u) (h2 : t ≠ 52) : ¬ (c = q ∨ v.ownBlock = some c ∨ c = mb) := by
 obtain ⟨S, hm, _, _⟩ := h.map
 rintro (e | e | e)
 ·exact obj_ne ho hq h1 e
 ·exact ho.not_row h2 h.row e
 ·exact hm.no_obj ho e
theorem OpenSt.low2 {B q : Nat} {W : World} {v : Value} {mb : Nat} {P : List (Lb × Nat)} (h : OpenSt B W v mb P) (hq : B ≤ q) : ∀ k, (k = q ∨ v.ownBlock = some k ∨ k = mb) → B ≤ k := by
 obtain ⟨S, hm, _, _⟩ := h.map
 rintro k (e | e | e)
 ·omega
 ·exact (World.ownsRow.lt h.row k e).1
 ·rw [e]; exact hm.2.1
set_option maxHeartbeats 8000000 in
set_option maxRecDepth 100000 in
theorem impl_MakeBox_any (s : Sx) (name : ByteArray) (v : Value) (B : Nat) (w : World) (hf : FitSt s) (hz : name.size ≤ 1048576) (h : ReadSt B w v s.boxes) :
  Calls Try.prog 7 #[.agg #[v, .int .i64 s.valid], .string name] w fun e w' => ∃ v', e = .returned (.tuple #[.agg #[v', .int .i64 (makeV s name).1.valid], .int .i64 (makeV s name).2]) ∧ OwnSt w.heap.size w' v' (makeV s name).1.boxes ∧ Below w.heap.size w w' := by
 have FT := hide hf
 obtain ⟨L, hL, h⟩ := h
 obtain ⟨a1, c1, rfl⟩ := g_shape h.row
 obtain ⟨n, hn⟩ : ∃ n, n = s.boxes.length := ⟨_, rfl⟩
 have hn1 : L.length = n := by rw [hn, ← hL, List.length_map]
 have hnl := hf.len
 rw [← hn] at hnl
 have S1 := hide h
 rw [hn1] at S1 ⊢
 have FE := hide hf.each; have HL := hide hL; have HN := hide hn; have HN1 := hide hn1; clear h hL hn hn1 hf; have BB := hide (Below.refl w.heap.size w)
 obtain ⟨wc1, hA⟩ : ∃ X, X = w.alloc (.cells ([.slice a1 n c1, .int .i64 s.valid] : List Value).toArray 28) := ⟨_, rfl⟩
 have Ax : HasObj wc1 w.heap.size 28 [.slice a1 n c1, .int .i64 s.valid] := by rw [hA]; exact HasObj.new _ _ _
 have hbn : Below w.heap.size w wc1 := by rw [hA]; exact (Below.refl _ _).alloc (Nat.le_refl _) _
 have loA : w.heap.size ≤ w.heap.size := (uh BB).size
 have EA := hA.symm; clear hA; replace S1 := hide ((uh S1).up hbn); have sz1 := hide (hbn.size); replace BB := hide (below_y (uh BB) hbn); clear hbn; have A := hide Ax; clear Ax
 obtain ⟨wc2, hR⟩ : ∃ X, X = wc1.alloc (.cells ([.slice none 0 0, .int .i64 0] : List Value).toArray 28) := ⟨_, rfl⟩
 have Rx : HasObj wc2 wc1.heap.size 28 [.slice none 0 0, .int .i64 0] := by rw [hR]; exact HasObj.new _ _ _
 have hbn : Below wc1.heap.size wc1 wc2 := by rw [hR]; exact (Below.refl _ _).alloc (Nat.le_refl _) _
 have neAR : w.heap.size ≠ wc1.heap.size := Nat.ne_of_lt (uh A).lt
 have loR : w.heap.size ≤ wc1.heap.size := (uh BB).size
 have ER := hR.symm; clear hR; replace A := hide ((uh A).ups hbn); replace S1 := hide ((uh S1).up hbn); have sz2 := hide (hbn.size); replace BB := hide (below_y (uh BB) hbn); clear hbn; have R := hide Rx; clear Rx; have Ac0_1 := (uh A).cell 0 rfl; have Ac1_1 := (uh A).cell 1 rfl
 go_enter Try.func7, Try.ntmps7
 have Ac0_2 := (uh A).cell 0 rfl; have Ac1_2 := (uh A).cell 1 rfl; go_wp2_with fail; clear Ac0_1 Ac1_1 Ac0_2 Ac1_2 EA ER
 refine (impl_StoreOk_any s _ _ _ (uh FT) ⟨L, uh HL, uh S1⟩).mono ?_
 rintro e wc3 ⟨rfl, hb⟩
 replace A := hide ((uh A).ups hb); replace R := hide ((uh R).ups hb); replace S1 := hide ((uh S1).up hb); have sz3 := hide (hb.size); replace BB := hide (below_y (uh BB) hb); clear hb
 cases h1 : storeOk s with
 | false =>
  have ANS : Hid (makeV s name = (s, 4)) := makeV_bad1 h1
  have Ac0_3 := (uh A).cell 0 rfl; have Ac1_3 := (uh A).cell 1 rfl; go_wp2_with fail; clear Ac0_3 Ac1_3
  have LO9 : w.heap.size ≤ wc3.heap.size := (uh BB).size
  refine (copiedStore_any s _ _ _ (uh FT) ⟨L, uh HL, uh S1⟩).mono ?_
  rintro e wca4 ⟨v9, rfl, o9, hb⟩
  obtain ⟨a9, c9, rfl⟩ := o9.shape
  have OW_ := hide (o9.based LO9); clear o9; replace A := hide ((uh A).ups hb); replace R := hide ((uh R).ups hb); replace S1 := hide ((uh S1).up hb); have sz4 := hide (hb.size); replace BB := hide (below_y (uh BB) hb); clear hb; have OW := OW_; clear OW_; have Rf0 := (uh R).frozen 0; have Rf1 := (uh R).frozen 1; have Re0 := (uh R).cell 0 rfl; have Re1 := (uh R).cell 1 rfl; have F := hide (fill2 (uh R) (.slice a9 s.boxes.length c9) (.int .i64 s.valid))
  obtain ⟨U, hU⟩ : ∃ U, U = ((wca4.setCell ⟨wc1.heap.size, 0, none⟩ (.slice a9 s.boxes.length c9)).setCell ⟨wc1.heap.size, 1, none⟩ (.int .i64 s.valid)) := ⟨_, rfl⟩
  have F9 := uh F
  rw [← hU] at F9
  have EU := hU.symm; clear F hU; have v0 := F9.obj.cell 0 rfl; have v1 := F9.obj.cell 1 rfl; have F := hide F9; clear F9
  go_wp2_with (refine bodyPost_ret (by simp [results, Try.results7, go_sem, v0, v1]; try rfl) rfl ?_)
  clear EU; have F := uh F
  rw [uh ANS]
  exact ⟨_, rfl, (uh OW).filled F (by decide) (by decide) (by decide), F.below loR (uh BB)⟩
 | true =>
  go_wp2_with fail
  refine (impl_BoxName_any name _ hz).mono ?_
  rintro e wc4 ⟨rfl, hb⟩
  replace A := hide ((uh A).ups hb); replace R := hide ((uh R).ups hb); replace S1 := hide ((uh S1).up hb); have sz4 := hide (hb.size); replace BB := hide (below_y (uh BB) hb); clear hb
  cases h2 : nameOkL name.data.toList with
  | false =>
   have ANS : Hid (makeV s name = (s, 4)) := makeV_bad2 h2
   have Ac0_3 := (uh A).cell 0 rfl; have Ac1_3 := (uh A).cell 1 rfl; go_wp2_with fail; clear Ac0_3 Ac1_3
   have LO9 : w.heap.size ≤ wc4.heap.size := (uh BB).size
   refine (copiedStore_any s _ _ _ (uh FT) ⟨L, uh HL, uh S1⟩).mono ?_
   rintro e wcb5 ⟨v9, rfl, o9, hb⟩
   obtain ⟨a9, c9, rfl⟩ := o9.shape
   have OW_ := hide (o9.based LO9); clear o9; replace A := hide ((uh A).ups hb); replace R := hide ((uh R).ups hb); replace S1 := hide ((uh S1).up hb); have sz5 := hide (hb.size); replace BB := hide (below_y (uh BB) hb); clear hb; have OW := OW_; clear OW_; have Rf0 := (uh R).frozen 0; have Rf1 := (uh R).frozen 1; have Re0 := (uh R).cell 0 rfl; have Re1 := (uh R).cell 1 rfl; have F := hide (fill2 (uh R) (.slice a9 s.boxes.length c9) (.int .i64 s.valid))
   obtain ⟨U, hU⟩ : ∃ U, U = ((wcb5.setCell ⟨wc1.heap.size, 0, none⟩ (.slice a9 s.boxes.length c9)).setCell ⟨wc1.heap.size, 1, none⟩ (.int .i64 s.valid)) := ⟨_, rfl⟩
   have F9 := uh F
   rw [← hU] at F9
   have EU := hU.symm; clear F hU; have v0 := F9.obj.cell 0 rfl; have v1 := F9.obj.cell 1 rfl; have F := hide F9; clear F9
   go_wp2_with (refine bodyPost_ret (by simp [results, Try.results7, go_sem, v0, v1]; try rfl) rfl ?_)
   clear EU; have F := uh F
   rw [uh ANS]
   exact ⟨_, rfl, (uh OW).filled F (by decide) (by decide) (by decide), F.below loR (uh BB)⟩
  | true =>
   have H1 := hide h1; have H2 := hide h2; have RT := hide (right_st h1); have Ac0_3 := (uh A).cell 0 rfl; have Ac1_3 := (uh A).cell 1 rfl; go_wp2_with fail; clear Ac0_3 Ac1_3
   have LOP : Hid (w.heap.size ≤ wc4.heap.size) := (uh BB).size
   refine (openedStore_any s _ _ _ (uh FT) ⟨L, uh HL, uh S1⟩).mono ?_
   rintro e wc5 ⟨vP, mbP, P, hPP, rfl, oS, hb⟩
   obtain ⟨aP, cP, rfl⟩ := g_shape oS.row
   rw [List.length_map] at oS ⊢
   have OSP_ := hide (oS.based (uh LOP)); have HPP := hide hPP; clear oS hPP; replace A := hide ((uh A).ups hb); replace R := hide ((uh R).ups hb); replace S1 := hide ((uh S1).up hb); have sz5 := hide (hb.size); replace BB := hide (below_y (uh BB) hb); clear hb; have OSP := OSP_; clear OSP_
   replace LOP : Hid (w.heap.size ≤ wc5.heap.size) := (uh BB).size
   clear h1 h2
   obtain ⟨wc6, hO⟩ : ∃ X, X = wc5.alloc (.cells ([.slice aP P.length cP, .map (some mbP), .int .i64 s.valid] : List Value).toArray 50) := ⟨_, rfl⟩
   have Ox : HasObj wc6 wc5.heap.size 50 [.slice aP P.length cP, .map (some mbP), .int .i64 s.valid] := by rw [hO]; exact HasObj.new _ _ _
   have hbn : Below wc5.heap.size wc5 wc6 := by rw [hO]; exact (Below.refl _ _).alloc (Nat.le_refl _) _
   have neAO : w.heap.size ≠ wc5.heap.size := Nat.ne_of_lt (uh A).lt
   have neRO : wc1.heap.size ≠ wc5.heap.size := Nat.ne_of_lt (uh R).lt
   have loO : w.heap.size ≤ wc5.heap.size := (uh BB).size
   have EO := hO.symm; clear hO; replace A := hide ((uh A).ups hbn); replace R := hide ((uh R).ups hbn); replace S1 := hide ((uh S1).up hbn); replace OSP := hide ((uh OSP).up hbn); have sz6 := hide (hbn.size); replace BB := hide (below_y (uh BB) hbn); clear hbn; have O := hide Ox; clear Ox
   have PL : Hid (P.length = s.boxes.length) := by have h9 := congrArg List.length (uh HPP); rw [List.length_map] at h9; exact h9
   have LK := (uh OSP).look hz
   cases hfb : findB P name with
   | some g0 =>
    rw [hfb] at LK
    simp only [ptrOf] at LK
    obtain ⟨k, x, hk, hk2, hs2, hno, hat⟩ := found_at (uh HPP) hfb
    have B1 := hide hat; clear hfb hk hk2 hs2 hno hat; have Oc0_4 := (uh O).cell 0 rfl; have Oc1_4 := (uh O).cell 1 rfl; have Oc2_4 := (uh O).cell 2 rfl
    have ANS : Hid (makeV s name = (s, 2)) := makeV_there (uh H1) (uh H2) (uh B1)
    have Ac0_5 := (uh A).cell 0 rfl; have Ac1_5 := (uh A).cell 1 rfl; go_wp2_with fail; clear Oc0_4 Oc1_4 Oc2_4 Ac0_5 Ac1_5 EO
    have LO9 : w.heap.size ≤ wc6.heap.size := (uh BB).size
    refine (copiedStore_any s _ _ _ (uh FT) ⟨L, uh HL, uh S1⟩).mono ?_
    rintro e wcy7 ⟨v9, rfl, o9, hb⟩
    obtain ⟨a9, c9, rfl⟩ := o9.shape
    have OW_ := hide (o9.based LO9); clear o9; replace A := hide ((uh A).ups hb); replace R := hide ((uh R).ups hb); replace O := hide ((uh O).ups hb); replace S1 := hide ((uh S1).up hb); replace OSP := hide ((uh OSP).up hb); have sz7 := hide (hb.size); replace BB := hide (below_y (uh BB) hb); clear hb; have OW := OW_; clear OW_; have Rf0 := (uh R).frozen 0; have Rf1 := (uh R).frozen 1; have Re0 := (uh R).cell 0 rfl; have Re1 := (uh R).cell 1 rfl; have F := hide (fill2 (uh R) (.slice a9 s.boxes.length c9) (.int .i64 s.valid))
    obtain ⟨U, hU⟩ : ∃ U, U = ((wcy7.setCell ⟨wc1.heap.size, 0, none⟩ (.slice a9 s.boxes.length c9)).setCell ⟨wc1.heap.size, 1, none⟩ (.int .i64 s.valid)) := ⟨_, rfl⟩
    have F9 := uh F
    rw [← hU] at F9
    have EU := hU.symm; clear F hU; have v0 := F9.obj.cell 0 rfl; have v1 := F9.obj.cell 1 rfl; have F := hide F9; clear F9
    go_wp2_with (refine bodyPost_ret (by simp [results, Try.results7, go_sem, v0, v1]; try rfl) rfl ?_)
    clear EU; have F := uh F
    rw [uh ANS]
    exact ⟨_, rfl, (uh OW).filled F (by decide) (by decide) (by decide), F.below loR (uh BB)⟩
   | none =>
    rw [hfb] at LK
    simp only [ptrOf] at LK
    have B1 := hide (found_no (uh HPP) hfb)
    have NO : Hid (∀ b ∈ s.boxes, sameN name b = false) := fun b hb => by rw [← uh HPP] at hb; obtain ⟨z, hz2, rfl⟩ := List.mem_map.1 hb; exact findB_none hfb z hz2
    clear hfb; have Oc0_4 := (uh O).cell 0 rfl; have Oc1_4 := (uh O).cell 1 rfl; have Oc2_4 := (uh O).cell 2 rfl; have Ac0_5 := (uh A).cell 0 rfl; have Ac1_5 := (uh A).cell 1 rfl
    cases hf1 : ((n : Int) == 4) with
    | true =>
     have hA : Hid (4 ≤ s.boxes.length) := by have h9 := of_decide_eq_true hf1; show _ ≤ _; rw [← uh HN]; omega
     have ANS : Hid (makeV s name = (s, 3)) := makeV_full (uh H1) (uh H2) (uh B1) (.inl (uh hA))
     have Ac0_6 := (uh A).cell 0 rfl; have Ac1_6 := (uh A).cell 1 rfl; go_wp2_with fail; clear Oc0_4 Oc1_4 Oc2_4 Ac0_5 Ac1_5 Ac0_6 Ac1_6 EO
     have LO9 : w.heap.size ≤ wc6.heap.size := (uh BB).size
     refine (copiedStore_any s _ _ _ (uh FT) ⟨L, uh HL, uh S1⟩).mono ?_
     rintro e wcf7 ⟨v9, rfl, o9, hb⟩
     obtain ⟨a9, c9, rfl⟩ := o9.shape
     have OW_ := hide (o9.based LO9); clear o9; replace A := hide ((uh A).ups hb); replace R := hide ((uh R).ups hb); replace O := hide ((uh O).ups hb); replace S1 := hide ((uh S1).up hb); replace OSP := hide ((uh OSP).up hb); have sz7 := hide (hb.size); replace BB := hide (below_y (uh BB) hb); clear hb; have OW := OW_; clear OW_; have Rf0 := (uh R).frozen 0; have Rf1 := (uh R).frozen 1; have Re0 := (uh R).cell 0 rfl; have Re1 := (uh R).cell 1 rfl; have F := hide (fill2 (uh R) (.slice a9 s.boxes.length c9) (.int .i64 s.valid))
     obtain ⟨U, hU⟩ : ∃ U, U = ((wcf7.setCell ⟨wc1.heap.size, 0, none⟩ (.slice a9 s.boxes.length c9)).setCell ⟨wc1.heap.size, 1, none⟩ (.int .i64 s.valid)) := ⟨_, rfl⟩
     have F9 := uh F
     rw [← hU] at F9
     have EU := hU.symm; clear F hU; have v0 := F9.obj.cell 0 rfl; have v1 := F9.obj.cell 1 rfl; have F := hide F9; clear F9
     go_wp2_with (refine bodyPost_ret (by simp [results, Try.results7, go_sem, v0, v1]; try rfl) rfl ?_)
     clear EU; have F := uh F
     rw [uh ANS]
     exact ⟨_, rfl, (uh OW).filled F (by decide) (by decide) (by decide), F.below loR (uh BB)⟩
    | false =>
     cases hf2 : (s.valid == 9999) with
     | true =>
      have hA : Hid (9999 ≤ s.valid) := by have h9 := of_decide_eq_true hf2; show _ ≤ _; omega
      have ANS : Hid (makeV s name = (s, 3)) := makeV_full (uh H1) (uh H2) (uh B1) (.inr (uh hA))
      have Ac0_6 := (uh A).cell 0 rfl; have Ac1_6 := (uh A).cell 1 rfl; go_wp2_with fail; clear Oc0_4 Oc1_4 Oc2_4 Ac0_5 Ac1_5 Ac0_6 Ac1_6 EO
      have LO9 : w.heap.size ≤ wc6.heap.size := (uh BB).size
      refine (copiedStore_any s _ _ _ (uh FT) ⟨L, uh HL, uh S1⟩).mono ?_
      rintro e wcg7 ⟨v9, rfl, o9, hb⟩
      obtain ⟨a9, c9, rfl⟩ := o9.shape
      have OW_ := hide (o9.based LO9); clear o9; replace A := hide ((uh A).ups hb); replace R := hide ((uh R).ups hb); replace O := hide ((uh O).ups hb); replace S1 := hide ((uh S1).up hb); replace OSP := hide ((uh OSP).up hb); have sz7 := hide (hb.size); replace BB := hide (below_y (uh BB) hb); clear hb; have OW := OW_; clear OW_; have Rf0 := (uh R).frozen 0; have Rf1 := (uh R).frozen 1; have Re0 := (uh R).cell 0 rfl; have Re1 := (uh R).cell 1 rfl; have F := hide (fill2 (uh R) (.slice a9 s.boxes.length c9) (.int .i64 s.valid))
      obtain ⟨U, hU⟩ : ∃ U, U = ((wcg7.setCell ⟨wc1.heap.size, 0, none⟩ (.slice a9 s.boxes.length c9)).setCell ⟨wc1.heap.size, 1, none⟩ (.int .i64 s.valid)) := ⟨_, rfl⟩
      have F9 := uh F
      rw [← hU] at F9
      have EU := hU.symm; clear F hU; have v0 := F9.obj.cell 0 rfl; have v1 := F9.obj.cell 1 rfl; have F := hide F9; clear F9
      go_wp2_with (refine bodyPost_ret (by simp [results, Try.results7, go_sem, v0, v1]; try rfl) rfl ?_)
      clear EU; have F := uh F
      rw [uh ANS]
      exact ⟨_, rfl, (uh OW).filled F (by decide) (by decide) (by decide), F.below loR (uh BB)⟩
     | false =>
      have wv : IntKind.i64.wrap (s.valid + 1) = s.valid + 1 := by have q2_ := (uh RT).v1; have q3_ := (uh RT).v2; rw [IntKind.wrap_i64]; omega
      have N4 := hide (of_decide_eq_false hf1); have N9 := hide (of_decide_eq_false hf2)
      have ANS : Hid (makeV s name = (⟨madeL s.boxes name s.valid, s.valid + 1⟩, 0)) := makeV_yes (uh H1) (uh H2) (uh B1) (by have q2_ := (uh RT).four; have q3_ := uh HN; have q4_ := uh N4; omega) (by have q3_ := (uh RT).v2; have q4_ := uh N9; omega)
      have NV := hide (newV_ok (uh H2) (show 1 ≤ s.valid by have q2_ := (uh RT).v1; omega) (uh RT).v2)
      have Ac0_6 := (uh A).cell 0 rfl; have Ac1_6 := (uh A).cell 1 rfl; go_wp2_with fail; clear Oc0_4 Oc1_4 Oc2_4 Ac0_5 Ac1_5 Ac0_6 Ac1_6 EO; clear LK hf1 hf2
      refine (impl_BoxNew_any name s.valid _ hz).mono ?_
      rintro e wcn7 ⟨rfl, hb⟩
      rw [uh NV]
      simp only
      replace A := hide ((uh A).ups hb); replace R := hide ((uh R).ups hb); replace O := hide ((uh O).ups hb); replace S1 := hide ((uh S1).up hb); replace OSP := hide ((uh OSP).up hb); have sz7 := hide (hb.size); replace BB := hide (below_y (uh BB) hb); clear hb
      obtain ⟨wcn8, hN⟩ : ∃ X, X = wcn7.alloc (.cells ([.string (newBox name s.valid).name, .int .i64 (newBox name s.valid).valid, .int .i64 (newBox name s.valid).next, .int .i64 (newBox name s.valid).mod, .slice none 0 0, .slice none 0 0, .int .i64 (newBox name s.valid).hor] : List Value).toArray 42) := ⟨_, rfl⟩
      have Nx : HasObj wcn8 wcn7.heap.size 42 [.string (newBox name s.valid).name, .int .i64 (newBox name s.valid).valid, .int .i64 (newBox name s.valid).next, .int .i64 (newBox name s.valid).mod, .slice none 0 0, .slice none 0 0, .int .i64 (newBox name s.valid).hor] := by rw [hN]; exact HasObj.new _ _ _
      have hbn : Below wcn7.heap.size wcn7 wcn8 := by rw [hN]; exact (Below.refl _ _).alloc (Nat.le_refl _) _
      have neAN : w.heap.size ≠ wcn7.heap.size := Nat.ne_of_lt (uh A).lt
      have neRN : wc1.heap.size ≠ wcn7.heap.size := Nat.ne_of_lt (uh R).lt
      have neON : wc5.heap.size ≠ wcn7.heap.size := Nat.ne_of_lt (uh O).lt
      have loN : w.heap.size ≤ wcn7.heap.size := (uh BB).size
      have EN := hN.symm; clear hN; replace A := hide ((uh A).ups hbn); replace R := hide ((uh R).ups hbn); replace O := hide ((uh O).ups hbn); replace S1 := hide ((uh S1).up hbn); replace OSP := hide ((uh OSP).up hbn); have sz8 := hide (hbn.size); replace BB := hide (below_y (uh BB) hbn); clear hbn; have N := hide Nx; clear Nx; have Nc0_7 := (uh N).cell 0 rfl; have Nc1_7 := (uh N).cell 1 rfl; have Nc2_7 := (uh N).cell 2 rfl; have Nc3_7 := (uh N).cell 3 rfl; have Nc4_7 := (uh N).cell 4 rfl; have Nc5_7 := (uh N).cell 5 rfl; have Nc6_7 := (uh N).cell 6 rfl; go_wp2_with fail; clear Nc0_7 Nc1_7 Nc2_7 Nc3_7 Nc4_7 Nc5_7 Nc6_7 EN
      have LO3 : Hid (w.heap.size ≤ wcn8.heap.size) := (uh BB).size
      have PLT : Hid (∀ z ∈ P, z.2 < wcn8.heap.size) := fun z hz => ((uh OSP).objs z hz).2.1.lt
      refine (add_any _ _ _ mbP s.valid P (newBox name s.valid) _ (by have q1_ := uh PL; have q2_ := (uh RT).four; omega) hz wv (uh LO3) rfl rfl (uh O) (uh OSP)).mono ?_
      rintro e wcn9 ⟨rfl, v5, k, hk, hlow, hat, hO, hPt, hOb, hgb⟩
      have R_ := hide (hgb.obj (uh R) ((uh OSP).not_made (uh R) (uh O) (by decide) (by decide)))
      have BB_ : Hid (Below w.heap.size w wcn9) := (uh BB).trans (hgb.toBelow (uh BB).size ((uh OSP).low2 loO))
      have APP : Hid ((P.take k ++ ((⟨newBox name s.valid, .slice none 0 0, .slice none 0 0⟩ : Lb), wcn8.heap.size) :: P.drop k).Pairwise AsideB) := put_aside (uh OSP).apart (fun z hz => ⟨Nat.ne_of_lt (uh PLT z hz), ⟨fun q h1 h2 => (by cases h2), fun q h1 h2 => (by cases h2)⟩⟩)
      have OBJ : Hid (ObjsB w.heap.size wcn9 (P.take k ++ ((⟨newBox name s.valid, .slice none 0 0, .slice none 0 0⟩ : Lb), wcn8.heap.size) :: P.drop k)) := hOb.sub (fun p hp => put_sub hp)
      obtain ⟨a5, c5, rfl⟩ := g_shape hPt
      have PQ := put_blocks P ((⟨newBox name s.valid, .slice none 0 0, .slice none 0 0⟩ : Lb), wcn8.heap.size) k
      simp only at PQ
      rw [← PQ] at hPt hO
      have DP : Hid ((P.take k ++ ((⟨newBox name s.valid, .slice none 0 0, .slice none 0 0⟩ : Lb), wcn8.heap.size) :: P.drop k).map (·.1.b) = madeL s.boxes name s.valid) := by
       show _ = _
       rw [put_boxes (uh HPP)]
       refine (madeL_at (uh RT).asc (by have := uh PL; omega) (fun b hb => ?_) (fun b hb => ?_) (uh NO)).symm
       ·rw [← uh HPP, ← List.map_take] at hb; obtain ⟨z, hz2, rfl⟩ := List.mem_map.1 hb; exact hlow z hz2
       ·rw [← uh HPP, List.getElem?_map] at hb; obtain ⟨z, hz2, rfl⟩ := Option.map_eq_some_iff.1 hb; exact hat z hz2
      have LN : Hid ((P.take k ++ ((⟨newBox name s.valid, .slice none 0 0, .slice none 0 0⟩ : Lb), wcn8.heap.size) :: P.drop k).length ≤ 1048578) := by show _ ≤ _; have q1_ := uh PL; have q2_ := (uh RT).four; simp; omega
      have ROW := hide hPt; have O_ := hide hO; clear hO hPt hOb hgb PQ hlow hat hk OSP R O BB S1 A N PLT; have R := R_; have O := O_; have BB := BB_; clear R_ O_ BB_
      rw [List.length_map] at O ROW
      generalize (P.take k ++ ((⟨newBox name s.valid, .slice none 0 0, .slice none 0 0⟩ : Lb), wcn8.heap.size) :: P.drop k) = Q at *
      have Oc0_8 := (uh O).cell 0 rfl; have Oc1_8 := (uh O).cell 1 rfl; have Oc2_8 := (uh O).cell 2 rfl; go_wp2_with fail; clear Oc0_8 Oc1_8 Oc2_8
      refine (stored_any _ mbP (s.valid + 1) _ Q _ (uh LN) (uh ROW) (uh OBJ)).mono ?_
      rintro e wcn10 ⟨v9, rfl, o9, hb⟩
      obtain ⟨a9, c9, rfl⟩ := g_shape o9
      have OW_ := hide (own_of (uh OBJ) (uh APP) (uh DP) o9 hb (uh BB).size); clear o9
      rw [List.length_map] at OW_ ⊢
      replace R := hide ((uh R).ups hb); replace O := hide ((uh O).ups hb); have sz9 := hide (hb.size); replace BB := hide (below_y (uh BB) hb); clear hb; have OW := OW_; clear OW_; have Rf0 := (uh R).frozen 0; have Rf1 := (uh R).frozen 1; have Re0 := (uh R).cell 0 rfl; have Re1 := (uh R).cell 1 rfl; have F := hide (fill2 (uh R) (.slice a9 Q.length c9) (.int .i64 (s.valid + 1)))
      obtain ⟨U, hU⟩ : ∃ U, U = ((wcn10.setCell ⟨wc1.heap.size, 0, none⟩ (.slice a9 Q.length c9)).setCell ⟨wc1.heap.size, 1, none⟩ (.int .i64 (s.valid + 1))) := ⟨_, rfl⟩
      have F9 := uh F
      rw [← hU] at F9
      have EU := hU.symm; clear F hU; have v0 := F9.obj.cell 0 rfl; have v1 := F9.obj.cell 1 rfl; have F := hide F9; clear F9
      go_wp2_with (refine bodyPost_ret (by simp [results, Try.results7, go_sem, v0, v1]; try rfl) rfl ?_)
      clear EU; have F := uh F
      rw [uh ANS]
      exact ⟨_, rfl, (uh OW).filled F (by decide) (by decide) (by decide), F.below loR (uh BB)⟩
end Go.Proofs.Ytanapiaobpoebaa
