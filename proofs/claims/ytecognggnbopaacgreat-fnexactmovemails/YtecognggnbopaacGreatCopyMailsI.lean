/- The program's CopyMails. Made by gen_stores.py. -/
import Derived.Test.YtecognggnbopaacGreatTv
import Derived.Test.YtecognggnbopaacGreatAddMailsI
import Derived.Test.YtecognggnbopaacGreatOpA
import Derived.Test.YtecognggnbopaacGreatStoreOkI
import Derived.Test.YtecognggnbopaacGreatIsA
namespace Go.Proofs.YtecognggnbopaacGreat
open Go.RowKit
open Plain
set_option linter.unusedVariables false
set_option linter.unusedSimpArgs false

theorem aside_set2 {P : List (Lb × Nat)} (hap : P.Pairwise AsideB) {k g : Nat} {x y : Lb} (hk : P[k]? = some (x, g)) (hn : ∀ i p, i ≠ k → P[i]? = some p → ApartB p.1 y) : (P.set k (y, g)).Pairwise AsideB := by
 rw [List.pairwise_iff_getElem]
 intro i j hi hj hij
 rw [List.length_set] at hi hj
 have hi' := List.getElem?_eq_getElem hi
 have hj' := List.getElem?_eq_getElem hj
 rw [List.getElem_set, List.getElem_set]
 by_cases h1 : k = i
 ·rw [if_pos h1, if_neg (by omega)]
  subst h1
  exact ⟨(aside_at hap hj' hk (by omega)).1.symm, (hn _ _ (by omega) hj').symm⟩
 ·rw [if_neg h1]
  by_cases h2 : k = j
  ·rw [if_pos h2]
   subst h2
   exact ⟨(aside_at hap hi' hk (by omega)).1, hn _ _ (by omega) hi'⟩
  ·rw [if_neg h2]
   exact List.pairwise_iff_getElem.1 hap i j hi hj hij
theorem ObjsB.grew {B : Nat} {W W' : World} {P : List (Lb × Nat)} {k g : Nat} {x y : Lb} (h : ObjsB B W P) (hap : P.Pairwise AsideB) (hk : P[k]? = some (x, g)) (hg : W.grownBy W' (some g)) (hn : HasObj W' g 46 (lbC y)) (hy : OwnBx B W' y.m y.t y.b) : ObjsB B W' (P.set k (y, g)) := by
 have hx := h _ (List.mem_of_getElem? hk)
 intro p hp
 rcases set_cases hp with rfl | ⟨i, hne, hi⟩
 ·exact ⟨hx.1, hn, hy⟩
 ·have hm := h p (List.mem_of_getElem? hi)
  refine ⟨hm.1, hm.2.1.kept hg (fun e => (aside_at hap hi hk hne).1 (Option.some.inj e)), ⟨g_aside hm.2.2.1 hg (fun q hq e => ?_), g_aside hm.2.2.2 hg (fun q hq e => ?_)⟩⟩
  ·cases hq; exact hx.2.1.not_row (by decide) hm.2.2.1 e
  ·cases hq; exact hx.2.1.not_row (by decide) hm.2.2.2 e
set_option maxHeartbeats 16000000 in
set_option maxRecDepth 100000 in
theorem impl_CopyMails_any (s : Sx) (src dst : ByteArray) (set : List Rg) (v vs : Value) (B B2 : Nat) (w : World) (hf : FitSt s) (hz1 : src.size ≤ 1048576) (hz2 : dst.size ≤ 1048576) (hs : set.length ≤ 1048576) (h : ReadSt B w v s.boxes) (h2 : OwnR B2 w vs set) :
  Calls Tryz.prog 27 #[.agg #[v, .int .i64 s.valid], .string src, vs, .string dst] w fun e w' => ∃ v', e = .returned (.tuple #[.agg #[v', .int .i64 (copyV s src set dst).1.valid], .int .i64 (copyV s src set dst).2]) ∧ OwnSt w.heap.size w' v' (copyV s src set dst).1.boxes ∧ Below w.heap.size w w' := by
 have FT := hide hf
 obtain ⟨L, hL, h⟩ := h
 obtain ⟨a1, c1, rfl⟩ := g_shape h.row
 obtain ⟨n, hn⟩ : ∃ n, n = s.boxes.length := ⟨_, rfl⟩
 have hn1 : L.length = n := by rw [hn, ← hL, List.length_map]
 have hnl := hf.len
 rw [← hn] at hnl
 have S1 := hide h
 rw [hn1] at S1 ⊢
 have FE := hide hf.each; have HL := hide hL; have HN := hide hn; have HN1 := hide hn1; clear h hL hn hn1 hf
 have NS : Hid (∀ q, BlkBs (.slice a1 n c1) L q → q < w.heap.size) := fun q hq => ((uh S1).base q hq).2
 have RS := hide h2; have FLD := field_named; clear h2; have BB := hide (Below.refl w.heap.size w)
 obtain ⟨wc1, hA⟩ : ∃ X, X = w.alloc (.cells ([.slice a1 n c1, .int .i64 s.valid] : List Value).toArray 30) := ⟨_, rfl⟩
 have Ax : HasObj wc1 w.heap.size 30 [.slice a1 n c1, .int .i64 s.valid] := by rw [hA]; exact HasObj.new _ _ _
 have hbn : Below w.heap.size w wc1 := by rw [hA]; exact (Below.refl _ _).alloc (Nat.le_refl _) _
 have loA : w.heap.size ≤ w.heap.size := (uh BB).size
 have EA := hA.symm; clear hA; replace S1 := hide ((uh S1).up hbn); replace RS := hide ((uh RS).up hbn); have sz1 := hide (hbn.size); replace BB := hide (below_y (uh BB) hbn); clear hbn; have A := hide Ax; clear Ax
 obtain ⟨wc2, hR⟩ : ∃ X, X = wc1.alloc (.cells ([.slice none 0 0, .int .i64 0] : List Value).toArray 30) := ⟨_, rfl⟩
 have Rx : HasObj wc2 wc1.heap.size 30 [.slice none 0 0, .int .i64 0] := by rw [hR]; exact HasObj.new _ _ _
 have hbn : Below wc1.heap.size wc1 wc2 := by rw [hR]; exact (Below.refl _ _).alloc (Nat.le_refl _) _
 have neAR : w.heap.size ≠ wc1.heap.size := Nat.ne_of_lt (uh A).lt
 have loR : w.heap.size ≤ wc1.heap.size := (uh BB).size
 have ER := hR.symm; clear hR; replace A := hide ((uh A).ups hbn); replace S1 := hide ((uh S1).up hbn); replace RS := hide ((uh RS).up hbn); have sz2 := hide (hbn.size); replace BB := hide (below_y (uh BB) hbn); clear hbn; have R := hide Rx; clear Rx; have Ac0_1 := (uh A).cell 0 rfl; have Ac1_1 := (uh A).cell 1 rfl
 go_enter Tryz.func27, Tryz.ntmps27
 go_wp2_with fail; clear Ac0_1 Ac1_1 EA ER
 refine (impl_StoreOk_any s _ _ _ (uh FT) ⟨L, uh HL, uh S1⟩).mono ?_
 rintro e wc3 ⟨rfl, hb⟩
 replace A := hide ((uh A).ups hb); replace R := hide ((uh R).ups hb); replace S1 := hide ((uh S1).up hb); replace RS := hide ((uh RS).up hb); have sz3 := hide (hb.size); replace BB := hide (below_y (uh BB) hb); clear hb
 cases h1 : storeOk s with
 | false =>
  have ANS : Hid (copyV s src set dst = (s, 4)) := copyV_bad1 h1
  have Ac0_2 := (uh A).cell 0 rfl; have Ac1_2 := (uh A).cell 1 rfl; go_wp2_with fail; clear Ac0_2 Ac1_2
  have LO9 : w.heap.size ≤ wc3.heap.size := (uh BB).size
  refine (copiedStore_any s _ _ _ (uh FT) ⟨L, uh HL, uh S1⟩).mono ?_
  rintro e wca4 ⟨v9, rfl, o9, hb⟩
  obtain ⟨a9, c9, rfl⟩ := o9.shape
  have OW_ := hide (o9.based LO9); clear o9; replace A := hide ((uh A).ups hb); replace R := hide ((uh R).ups hb); replace S1 := hide ((uh S1).up hb); replace RS := hide ((uh RS).up hb); have sz4 := hide (hb.size); replace BB := hide (below_y (uh BB) hb); clear hb; have OW := OW_; clear OW_; have Rf0 := (uh R).frozen 0; have Rf1 := (uh R).frozen 1; have Re0 := (uh R).cell 0 rfl; have Re1 := (uh R).cell 1 rfl; have F := hide (fill2 (uh R) (.slice a9 s.boxes.length c9) (.int .i64 s.valid))
  obtain ⟨U, hU⟩ : ∃ U, U = ((wca4.setCell ⟨wc1.heap.size, 0, none⟩ (.slice a9 s.boxes.length c9)).setCell ⟨wc1.heap.size, 1, none⟩ (.int .i64 s.valid)) := ⟨_, rfl⟩
  have F9 := uh F
  rw [← hU] at F9
  have EU := hU.symm; clear F hU; have v0 := F9.obj.cell 0 rfl; have v1 := F9.obj.cell 1 rfl; have F := hide F9; clear F9
  go_wp2_with (refine bodyPost_ret (by simp [results, Tryz.results27, go_sem, v0, v1]; try rfl) rfl ?_)
  clear EU; have F := uh F
  rw [uh ANS]
  exact ⟨_, rfl, (uh OW).filled F (by decide) (by decide) (by decide), F.below loR (uh BB)⟩
 | true =>
  go_wp2_with fail
  refine (impl_SetOk_any set vs _ hs (uh RS).wide).mono ?_
  rintro e wc4 ⟨rfl, hb⟩
  replace A := hide ((uh A).ups hb); replace R := hide ((uh R).ups hb); replace S1 := hide ((uh S1).up hb); replace RS := hide ((uh RS).up hb); have sz4 := hide (hb.size); replace BB := hide (below_y (uh BB) hb); clear hb
  cases h2 : okS set with
  | false =>
   have ANS : Hid (copyV s src set dst = (s, 4)) := copyV_bad2 h2
   have Ac0_2 := (uh A).cell 0 rfl; have Ac1_2 := (uh A).cell 1 rfl; go_wp2_with fail; clear Ac0_2 Ac1_2
   have LO9 : w.heap.size ≤ wc4.heap.size := (uh BB).size
   refine (copiedStore_any s _ _ _ (uh FT) ⟨L, uh HL, uh S1⟩).mono ?_
   rintro e wcb5 ⟨v9, rfl, o9, hb⟩
   obtain ⟨a9, c9, rfl⟩ := o9.shape
   have OW_ := hide (o9.based LO9); clear o9; replace A := hide ((uh A).ups hb); replace R := hide ((uh R).ups hb); replace S1 := hide ((uh S1).up hb); replace RS := hide ((uh RS).up hb); have sz5 := hide (hb.size); replace BB := hide (below_y (uh BB) hb); clear hb; have OW := OW_; clear OW_; have Rf0 := (uh R).frozen 0; have Rf1 := (uh R).frozen 1; have Re0 := (uh R).cell 0 rfl; have Re1 := (uh R).cell 1 rfl; have F := hide (fill2 (uh R) (.slice a9 s.boxes.length c9) (.int .i64 s.valid))
   obtain ⟨U, hU⟩ : ∃ U, U = ((wcb5.setCell ⟨wc1.heap.size, 0, none⟩ (.slice a9 s.boxes.length c9)).setCell ⟨wc1.heap.size, 1, none⟩ (.int .i64 s.valid)) := ⟨_, rfl⟩
   have F9 := uh F
   rw [← hU] at F9
   have EU := hU.symm; clear F hU; have v0 := F9.obj.cell 0 rfl; have v1 := F9.obj.cell 1 rfl; have F := hide F9; clear F9
   go_wp2_with (refine bodyPost_ret (by simp [results, Tryz.results27, go_sem, v0, v1]; try rfl) rfl ?_)
   clear EU; have F := uh F
   rw [uh ANS]
   exact ⟨_, rfl, (uh OW).filled F (by decide) (by decide) (by decide), F.below loR (uh BB)⟩
  | true =>
   have CV := hide (copyV_in (f := src) (n := dst) h1 h2); have RT := hide (right_st h1); clear h1 h2; have Ac0_2 := (uh A).cell 0 rfl; have Ac1_2 := (uh A).cell 1 rfl; go_wp2_with fail; clear Ac0_2 Ac1_2
   have LOP : Hid (w.heap.size ≤ wc4.heap.size) := (uh BB).size
   refine (openedStore_any s _ _ _ (uh FT) ⟨L, uh HL, uh S1⟩).mono ?_
   rintro e wc5 ⟨vP, mbP, P, hPP, rfl, oS, hb⟩
   obtain ⟨aP, cP, rfl⟩ := g_shape oS.row
   rw [List.length_map] at oS ⊢
   have OSP_ := hide (oS.based (uh LOP)); have HPP := hide hPP; clear oS hPP; replace A := hide ((uh A).ups hb); replace R := hide ((uh R).ups hb); replace S1 := hide ((uh S1).up hb); replace RS := hide ((uh RS).up hb); have sz5 := hide (hb.size); replace BB := hide (below_y (uh BB) hb); clear hb; have OSP := OSP_; clear OSP_
   replace LOP : Hid (w.heap.size ≤ wc5.heap.size) := (uh BB).size
   obtain ⟨wc6, hO⟩ : ∃ X, X = wc5.alloc (.cells ([.slice aP P.length cP, .map (some mbP), .int .i64 s.valid] : List Value).toArray 66) := ⟨_, rfl⟩
   have Ox : HasObj wc6 wc5.heap.size 66 [.slice aP P.length cP, .map (some mbP), .int .i64 s.valid] := by rw [hO]; exact HasObj.new _ _ _
   have hbn : Below wc5.heap.size wc5 wc6 := by rw [hO]; exact (Below.refl _ _).alloc (Nat.le_refl _) _
   have neAO : w.heap.size ≠ wc5.heap.size := Nat.ne_of_lt (uh A).lt
   have neRO : wc1.heap.size ≠ wc5.heap.size := Nat.ne_of_lt (uh R).lt
   have loO : w.heap.size ≤ wc5.heap.size := (uh BB).size
   have EO := hO.symm; clear hO; replace A := hide ((uh A).ups hbn); replace R := hide ((uh R).ups hbn); replace S1 := hide ((uh S1).up hbn); replace RS := hide ((uh RS).up hbn); replace OSP := hide ((uh OSP).up hbn); have sz6 := hide (hbn.size); replace BB := hide (below_y (uh BB) hbn); clear hbn; have O := hide Ox; clear Ox
   cases f1 : findB P src with
   | none =>
    cases f2 : findB P dst with
    | none =>
     have F1 := hide f1; have F2 := hide f2; have B1 := hide (found_no (uh HPP) f1); clear f1 f2; have Oc0_3 := (uh O).cell 0 rfl; have Oc1_3 := (uh O).cell 1 rfl; have Oc2_3 := (uh O).cell 2 rfl
     go_wp2
     clear Oc0_3 Oc1_3 Oc2_3 EO
     refine wp_region_held_drew (S := fun w' => w'.cell? ⟨wc5.heap.size, 0, none⟩ = some (.slice aP P.length cP) ∧ w'.cell? ⟨wc5.heap.size, 1, none⟩ = some (.map (some mbP)) ∧ w'.cell? ⟨wc5.heap.size, 2, none⟩ = some (.int .i64 s.valid) ∧ (Instr.lookup 64 (.map (some mbP)) (.string src) false).run Tryz.prog w' = .ok (.pointer none) w' ∧ (Instr.lookup 64 (.map (some mbP)) (.string dst) false).run Tryz.prog w' = .ok (.pointer none) w') (by kernel_rfl) (⟨(uh O).cell 0 rfl, (uh O).cell 1 rfl, (uh O).cell 2 rfl, by first | (have h9 := (uh OSP).look hz1; rw [uh F1] at h9; exact h9) | (have h9 := (uh OSP).drew.look hz1; rw [uh F1] at h9; exact h9), by first | (have h9 := (uh OSP).look hz2; rw [uh F2] at h9; exact h9) | (have h9 := (uh OSP).drew.look hz2; rw [uh F2] at h9; exact h9)⟩) (fun hHeld => ?_)
     replace A := hide ((uh A).drew); replace R := hide ((uh R).drew); replace O := hide ((uh O).drew); replace S1 := hide ((uh S1).drew); replace RS := hide ((uh RS).drew); replace OSP := hide ((uh OSP).drew); replace BB := hide ((uh BB).drew)
     have sz7 : Hid (wc6.heap.size ≤ wc6.drew.heap.size) := Nat.le_refl _
     refine tv 0 25 ?_; refine tv 1 26 ?_; refine tv 2 27 ?_; refine tv 3 28 ?_; refine tv 4 29 ?_; refine tv 5 30 ?_; refine tv 6 31 ?_; refine tv 7 32 ?_; refine tv 8 11 ?_; refine tv 9 12 ?_
     refine wpAnyH_done (by kernel_rfl) ?_ _
     have ANS : Hid (copyV s src set dst = (s, 1)) := by show _ = _; rw [uh CV, uh B1]
     have Ac0_4 := (uh A).cell 0 rfl; have Ac1_4 := (uh A).cell 1 rfl; go_wp2_with fail; clear Ac0_4 Ac1_4
     have LO9 : w.heap.size ≤ wc6.drew.heap.size := (uh BB).size
     refine (copiedStore_any s _ _ _ (uh FT) ⟨L, uh HL, uh S1⟩).mono ?_
     rintro e wcn7 ⟨v9, rfl, o9, hb⟩
     obtain ⟨a9, c9, rfl⟩ := o9.shape
     have OW_ := hide (o9.based LO9); clear o9; replace A := hide ((uh A).ups hb); replace R := hide ((uh R).ups hb); replace O := hide ((uh O).ups hb); replace S1 := hide ((uh S1).up hb); replace RS := hide ((uh RS).up hb); replace OSP := hide ((uh OSP).up hb); have sz8 := hide (hb.size); replace BB := hide (below_y (uh BB) hb); clear hb; have OW := OW_; clear OW_; have Rf0 := (uh R).frozen 0; have Rf1 := (uh R).frozen 1; have Re0 := (uh R).cell 0 rfl; have Re1 := (uh R).cell 1 rfl; have F := hide (fill2 (uh R) (.slice a9 s.boxes.length c9) (.int .i64 s.valid))
     obtain ⟨U, hU⟩ : ∃ U, U = ((wcn7.setCell ⟨wc1.heap.size, 0, none⟩ (.slice a9 s.boxes.length c9)).setCell ⟨wc1.heap.size, 1, none⟩ (.int .i64 s.valid)) := ⟨_, rfl⟩
     have F9 := uh F
     rw [← hU] at F9
     have EU := hU.symm; clear F hU; have v0 := F9.obj.cell 0 rfl; have v1 := F9.obj.cell 1 rfl; have F := hide F9; clear F9
     go_wp2_with (refine bodyPost_ret (by simp [results, Tryz.results27, go_sem, v0, v1]; try rfl) rfl ?_)
     clear EU; have F := uh F
     rw [uh ANS]
     exact ⟨_, rfl, (uh OW).filled F (by decide) (by decide) (by decide), F.below loR (uh BB)⟩
    | some g2 =>
     have F1 := hide f1; have F2 := hide f2; have B1 := hide (found_no (uh HPP) f1); clear f1 f2; have Oc0_3 := (uh O).cell 0 rfl; have Oc1_3 := (uh O).cell 1 rfl; have Oc2_3 := (uh O).cell 2 rfl
     go_wp2
     clear Oc0_3 Oc1_3 Oc2_3 EO
     refine wp_region_held_drew (S := fun w' => w'.cell? ⟨wc5.heap.size, 0, none⟩ = some (.slice aP P.length cP) ∧ w'.cell? ⟨wc5.heap.size, 1, none⟩ = some (.map (some mbP)) ∧ w'.cell? ⟨wc5.heap.size, 2, none⟩ = some (.int .i64 s.valid) ∧ (Instr.lookup 64 (.map (some mbP)) (.string src) false).run Tryz.prog w' = .ok (.pointer none) w' ∧ (Instr.lookup 64 (.map (some mbP)) (.string dst) false).run Tryz.prog w' = .ok (.pointer (some ⟨g2, 0, none⟩)) w') (by kernel_rfl) (⟨(uh O).cell 0 rfl, (uh O).cell 1 rfl, (uh O).cell 2 rfl, by first | (have h9 := (uh OSP).look hz1; rw [uh F1] at h9; exact h9) | (have h9 := (uh OSP).drew.look hz1; rw [uh F1] at h9; exact h9), by first | (have h9 := (uh OSP).look hz2; rw [uh F2] at h9; exact h9) | (have h9 := (uh OSP).drew.look hz2; rw [uh F2] at h9; exact h9)⟩) (fun hHeld => ?_)
     replace A := hide ((uh A).drew); replace R := hide ((uh R).drew); replace O := hide ((uh O).drew); replace S1 := hide ((uh S1).drew); replace RS := hide ((uh RS).drew); replace OSP := hide ((uh OSP).drew); replace BB := hide ((uh BB).drew)
     have sz7 : Hid (wc6.heap.size ≤ wc6.drew.heap.size) := Nat.le_refl _
     refine tv 0 25 ?_; refine tv 1 26 ?_; refine tv 2 27 ?_; refine tv 3 28 ?_; refine tv 4 29 ?_; refine tv 5 30 ?_; refine tv 6 31 ?_; refine tv 7 32 ?_; refine tv 8 11 ?_; refine tv 9 12 ?_
     refine wpAnyH_done (by kernel_rfl) ?_ _
     have ANS : Hid (copyV s src set dst = (s, 1)) := by show _ = _; rw [uh CV, uh B1]
     have Ac0_4 := (uh A).cell 0 rfl; have Ac1_4 := (uh A).cell 1 rfl; go_wp2_with fail; clear Ac0_4 Ac1_4
     have LO9 : w.heap.size ≤ wc6.drew.heap.size := (uh BB).size
     refine (copiedStore_any s _ _ _ (uh FT) ⟨L, uh HL, uh S1⟩).mono ?_
     rintro e wcn7 ⟨v9, rfl, o9, hb⟩
     obtain ⟨a9, c9, rfl⟩ := o9.shape
     have OW_ := hide (o9.based LO9); clear o9; replace A := hide ((uh A).ups hb); replace R := hide ((uh R).ups hb); replace O := hide ((uh O).ups hb); replace S1 := hide ((uh S1).up hb); replace RS := hide ((uh RS).up hb); replace OSP := hide ((uh OSP).up hb); have sz8 := hide (hb.size); replace BB := hide (below_y (uh BB) hb); clear hb; have OW := OW_; clear OW_; have Rf0 := (uh R).frozen 0; have Rf1 := (uh R).frozen 1; have Re0 := (uh R).cell 0 rfl; have Re1 := (uh R).cell 1 rfl; have F := hide (fill2 (uh R) (.slice a9 s.boxes.length c9) (.int .i64 s.valid))
     obtain ⟨U, hU⟩ : ∃ U, U = ((wcn7.setCell ⟨wc1.heap.size, 0, none⟩ (.slice a9 s.boxes.length c9)).setCell ⟨wc1.heap.size, 1, none⟩ (.int .i64 s.valid)) := ⟨_, rfl⟩
     have F9 := uh F
     rw [← hU] at F9
     have EU := hU.symm; clear F hU; have v0 := F9.obj.cell 0 rfl; have v1 := F9.obj.cell 1 rfl; have F := hide F9; clear F9
     go_wp2_with (refine bodyPost_ret (by simp [results, Tryz.results27, go_sem, v0, v1]; try rfl) rfl ?_)
     clear EU; have F := uh F
     rw [uh ANS]
     exact ⟨_, rfl, (uh OW).filled F (by decide) (by decide) (by decide), F.below loR (uh BB)⟩
   | some g1 =>
    cases f2 : findB P dst with
    | none =>
     have F1 := hide f1; have F2 := hide f2; have B2_ := hide (found_no (uh HPP) f2); clear f1 f2; have Oc0_3 := (uh O).cell 0 rfl; have Oc1_3 := (uh O).cell 1 rfl; have Oc2_3 := (uh O).cell 2 rfl
     go_wp2
     clear Oc0_3 Oc1_3 Oc2_3 EO
     refine wp_region_held_drew (S := fun w' => w'.cell? ⟨wc5.heap.size, 0, none⟩ = some (.slice aP P.length cP) ∧ w'.cell? ⟨wc5.heap.size, 1, none⟩ = some (.map (some mbP)) ∧ w'.cell? ⟨wc5.heap.size, 2, none⟩ = some (.int .i64 s.valid) ∧ (Instr.lookup 64 (.map (some mbP)) (.string src) false).run Tryz.prog w' = .ok (.pointer (some ⟨g1, 0, none⟩)) w' ∧ (Instr.lookup 64 (.map (some mbP)) (.string dst) false).run Tryz.prog w' = .ok (.pointer none) w') (by kernel_rfl) (⟨(uh O).cell 0 rfl, (uh O).cell 1 rfl, (uh O).cell 2 rfl, by first | (have h9 := (uh OSP).look hz1; rw [uh F1] at h9; exact h9) | (have h9 := (uh OSP).drew.look hz1; rw [uh F1] at h9; exact h9), by first | (have h9 := (uh OSP).look hz2; rw [uh F2] at h9; exact h9) | (have h9 := (uh OSP).drew.look hz2; rw [uh F2] at h9; exact h9)⟩) (fun hHeld => ?_)
     replace A := hide ((uh A).drew); replace R := hide ((uh R).drew); replace O := hide ((uh O).drew); replace S1 := hide ((uh S1).drew); replace RS := hide ((uh RS).drew); replace OSP := hide ((uh OSP).drew); replace BB := hide ((uh BB).drew)
     have sz7 : Hid (wc6.heap.size ≤ wc6.drew.heap.size) := Nat.le_refl _
     refine tv 0 25 ?_; refine tv 1 26 ?_; refine tv 2 27 ?_; refine tv 3 28 ?_; refine tv 4 29 ?_; refine tv 5 30 ?_; refine tv 6 31 ?_; refine tv 7 32 ?_; refine tv 8 11 ?_; refine tv 9 12 ?_
     refine wpAnyH_done (by kernel_rfl) ?_ _
     have ANS : Hid (copyV s src set dst = (s, 1)) := by show _ = _; rw [uh CV, uh B2_]; cases boxAt s src <;> rfl
     have Ac0_4 := (uh A).cell 0 rfl; have Ac1_4 := (uh A).cell 1 rfl; go_wp2_with fail; clear Ac0_4 Ac1_4
     have LO9 : w.heap.size ≤ wc6.drew.heap.size := (uh BB).size
     refine (copiedStore_any s _ _ _ (uh FT) ⟨L, uh HL, uh S1⟩).mono ?_
     rintro e wcm7 ⟨v9, rfl, o9, hb⟩
     obtain ⟨a9, c9, rfl⟩ := o9.shape
     have OW_ := hide (o9.based LO9); clear o9; replace A := hide ((uh A).ups hb); replace R := hide ((uh R).ups hb); replace O := hide ((uh O).ups hb); replace S1 := hide ((uh S1).up hb); replace RS := hide ((uh RS).up hb); replace OSP := hide ((uh OSP).up hb); have sz8 := hide (hb.size); replace BB := hide (below_y (uh BB) hb); clear hb; have OW := OW_; clear OW_; have Rf0 := (uh R).frozen 0; have Rf1 := (uh R).frozen 1; have Re0 := (uh R).cell 0 rfl; have Re1 := (uh R).cell 1 rfl; have F := hide (fill2 (uh R) (.slice a9 s.boxes.length c9) (.int .i64 s.valid))
     obtain ⟨U, hU⟩ : ∃ U, U = ((wcm7.setCell ⟨wc1.heap.size, 0, none⟩ (.slice a9 s.boxes.length c9)).setCell ⟨wc1.heap.size, 1, none⟩ (.int .i64 s.valid)) := ⟨_, rfl⟩
     have F9 := uh F
     rw [← hU] at F9
     have EU := hU.symm; clear F hU; have v0 := F9.obj.cell 0 rfl; have v1 := F9.obj.cell 1 rfl; have F := hide F9; clear F9
     go_wp2_with (refine bodyPost_ret (by simp [results, Tryz.results27, go_sem, v0, v1]; try rfl) rfl ?_)
     clear EU; have F := uh F
     rw [uh ANS]
     exact ⟨_, rfl, (uh OW).filled F (by decide) (by decide) (by decide), F.below loR (uh BB)⟩
    | some g2 =>
     have F1 := hide f1; have F2 := hide f2
     obtain ⟨k1, x1, hk1, _, _, _, at1⟩ := found_at (uh HPP) f1
     obtain ⟨k2, x2, hk2, hb2, hs2, hno2, at2⟩ := found_at (uh HPP) f2
     have AT1 := hide at1; have AT2 := hide at2; have HK1 := hide hk1; have HK2 := hide hk2; have HB2 := hide hb2; have HNO2 := hide hno2; have OK1 := hide ((uh RT).each _ (boxAt_mem at1).1).1; have OK2 := hide ((uh RT).each _ (boxAt_mem at2).1).1; have ND := hide (boxAt_mem at2).2; clear f1 f2 hk1 hk2 hb2 hs2 hno2 at1 at2; have FX1 := hide (fit_ok (uh OK1)); have l30 := (head_parts (boxOk_iff.1 (uh OK1)).1).2.2.2.2.1; have Oc0_3 := (uh O).cell 0 rfl; have Oc1_3 := (uh O).cell 1 rfl; have Oc2_3 := (uh O).cell 2 rfl
     go_wp2
     clear Oc0_3 Oc1_3 Oc2_3 EO
     refine wp_region_held_drew (S := fun w' => w'.cell? ⟨wc5.heap.size, 0, none⟩ = some (.slice aP P.length cP) ∧ w'.cell? ⟨wc5.heap.size, 1, none⟩ = some (.map (some mbP)) ∧ w'.cell? ⟨wc5.heap.size, 2, none⟩ = some (.int .i64 s.valid) ∧ (Instr.lookup 64 (.map (some mbP)) (.string src) false).run Tryz.prog w' = .ok (.pointer (some ⟨g1, 0, none⟩)) w' ∧ (Instr.lookup 64 (.map (some mbP)) (.string dst) false).run Tryz.prog w' = .ok (.pointer (some ⟨g2, 0, none⟩)) w') (by kernel_rfl) (⟨(uh O).cell 0 rfl, (uh O).cell 1 rfl, (uh O).cell 2 rfl, by first | (have h9 := (uh OSP).look hz1; rw [uh F1] at h9; exact h9) | (have h9 := (uh OSP).drew.look hz1; rw [uh F1] at h9; exact h9), by first | (have h9 := (uh OSP).look hz2; rw [uh F2] at h9; exact h9) | (have h9 := (uh OSP).drew.look hz2; rw [uh F2] at h9; exact h9)⟩) (fun hHeld => ?_)
     replace A := hide ((uh A).drew); replace R := hide ((uh R).drew); replace O := hide ((uh O).drew); replace S1 := hide ((uh S1).drew); replace RS := hide ((uh RS).drew); replace OSP := hide ((uh OSP).drew); replace BB := hide ((uh BB).drew)
     have sz7 : Hid (wc6.heap.size ≤ wc6.drew.heap.size) := Nat.le_refl _
     refine tv 0 25 ?_; refine tv 1 26 ?_; refine tv 2 27 ?_; refine tv 3 28 ?_; refine tv 4 29 ?_; refine tv 5 30 ?_; refine tv 6 31 ?_; refine tv 7 32 ?_; refine tv 8 11 ?_; refine tv 9 12 ?_
     refine wpAnyH_done (by kernel_rfl) ?_ _
     go_wp2_with fail
     refine (mailsIn_any x1.b x1.m x1.t g1 set vs _ _ _ (by omega) hs ((uh OSP).objs _ (List.mem_of_getElem? (uh HK1))).2.1 ((uh OSP).objs _ (List.mem_of_getElem? (uh HK1))).2.2 (uh RS)).mono ?_
     rintro e wc7 ⟨vM, rfl, oM, hb⟩
     have OM_ := hide oM; clear oM RS; replace A := hide ((uh A).ups hb); replace R := hide ((uh R).ups hb); replace O := hide ((uh O).ups hb); replace S1 := hide ((uh S1).up hb); replace OSP := hide ((uh OSP).up hb); have sz8 := hide (hb.size); replace BB := hide (below_y (uh BB) hb); clear hb; have OM := OM_; clear OM_; go_wp2_with fail
     have PLT : Hid (∀ (i : Nat) (p : Lb × Nat), P[i]? = some p → ∀ q, (p.1.m.ownBlock = some q ∨ p.1.t.ownBlock = some q) → q < wc7.heap.size) := fun i p hi q hq => (((uh OSP).objs p (List.mem_of_getElem? hi)).2.2.base q hq).2
     have hlg2 : w.heap.size ≤ g2 := ((uh OSP).objs _ (List.mem_of_getElem? (uh HK2))).1
     refine (addMails_any x2.b x2.m x2.t g2 (inSet set x1.b) vM _ _ _ (uh OK2) (Nat.le_trans (List.length_filter_le _ _) (by omega)) (fun z hz => (uh FX1).texts z (List.mem_filter.1 hz).1) (uh BB).size ((uh OSP).objs _ (List.mem_of_getElem? (uh HK2))).2.1 ((uh OSP).objs _ (List.mem_of_getElem? (uh HK2))).2.2 (uh OM)).mono ?_
     rintro e wc8 ⟨rfl, hyes, hg⟩
     have G2 := hide ((uh OSP).objs _ (List.mem_of_getElem? (uh HK2))).2.1
     have A_ := hide ((uh A).kept hg (fun e => obj_ne (uh A) (uh G2) (by decide) (Option.some.inj e)))
     have R_ := hide ((uh R).kept hg (fun e => obj_ne (uh R) (uh G2) (by decide) (Option.some.inj e)))
     have O_ := hide ((uh O).kept hg (fun e => obj_ne (uh O) (uh G2) (by decide) (Option.some.inj e)))
     have S1_ := hide ((uh S1).butB (GrownBut.of hg) (fun q hq1 hq2 => by have q1_ := uh NS q hq1; have q2_ := Option.some.inj hq2; omega))
     have BB_ : Hid (Below w.heap.size w wc8) := (uh BB).grown hg (uh BB).size (fun q hq => by have q2_ := Option.some.inj hq; omega)
     have sz9 := hide (hg.size); replace A := A_; clear A_; replace R := R_; clear R_; replace O := O_; clear O_; replace S1 := S1_; clear S1_; replace BB := BB_; clear BB_
     cases ha : addAll x2.b (inSet set x1.b) with
     | none =>
      clear hyes hg OSP OM G2
      have ANS : Hid (copyV s src set dst = (s, 3)) := by show _ = _; rw [uh CV, uh AT1, uh AT2]; simp only; rw [ha]
      have Ac0_4 := (uh A).cell 0 rfl; have Ac1_4 := (uh A).cell 1 rfl; go_wp2_with fail; clear Ac0_4 Ac1_4
      have LO9 : w.heap.size ≤ wc8.heap.size := (uh BB).size
      refine (copiedStore_any s _ _ _ (uh FT) ⟨L, uh HL, uh S1⟩).mono ?_
      rintro e wcf9 ⟨v9, rfl, o9, hb⟩
      obtain ⟨a9, c9, rfl⟩ := o9.shape
      have OW_ := hide (o9.based LO9); clear o9; replace A := hide ((uh A).ups hb); replace R := hide ((uh R).ups hb); replace O := hide ((uh O).ups hb); replace S1 := hide ((uh S1).up hb); have sz10 := hide (hb.size); replace BB := hide (below_y (uh BB) hb); clear hb; have OW := OW_; clear OW_; have Rf0 := (uh R).frozen 0; have Rf1 := (uh R).frozen 1; have Re0 := (uh R).cell 0 rfl; have Re1 := (uh R).cell 1 rfl; have F := hide (fill2 (uh R) (.slice a9 s.boxes.length c9) (.int .i64 s.valid))
      obtain ⟨U, hU⟩ : ∃ U, U = ((wcf9.setCell ⟨wc1.heap.size, 0, none⟩ (.slice a9 s.boxes.length c9)).setCell ⟨wc1.heap.size, 1, none⟩ (.int .i64 s.valid)) := ⟨_, rfl⟩
      have F9 := uh F
      rw [← hU] at F9
      have EU := hU.symm; clear F hU; have v0 := F9.obj.cell 0 rfl; have v1 := F9.obj.cell 1 rfl; have F := hide F9; clear F9
      go_wp2_with (refine bodyPost_ret (by simp [results, Tryz.results27, go_sem, v0, v1]; try rfl) rfl ?_)
      clear EU; have F := uh F
      rw [uh ANS]
      exact ⟨_, rfl, (uh OW).filled F (by decide) (by decide) (by decide), F.below loR (uh BB)⟩
     | some b9 =>
      obtain ⟨m9, t9, _, hob, hox, hm9, ht9⟩ := hyes b9 ha
      have ANS : Hid (copyV s src set dst = (putSt s b9, 0)) := by show _ = _; rw [uh CV, uh AT1, uh AT2]; simp only; rw [ha]
      have OBJ := hide (ObjsB.grew (y := (⟨b9, m9, t9⟩ : Lb)) (uh OSP).objs (uh OSP).apart (uh HK2) hg hob hox)
      have ROW : Hid (OwnPt w.heap.size wc8 (.slice aP P.length cP) ((P.set k2 ((⟨b9, m9, t9⟩ : Lb), g2)).map (·.2))) := by show OwnPt _ _ _ _; rw [blocks_set _ (uh HK2)]; exact g_aside (uh OSP).row hg (fun q hq e => by cases hq; exact (uh G2).not_row (by decide) (uh OSP).row e)
      have APS := hide (aside_set2 (y := (⟨b9, m9, t9⟩ : Lb)) (uh OSP).apart (uh HK2) (fun i p hne hi => ⟨fun q h1 h2 => by rcases hm9 q h2 with h3 | h3; exact (aside_at (uh OSP).apart hi (uh HK2) hne).2.1 q h1 h3; have q1_ := uh PLT i p hi q (.inl h1); omega, fun q h1 h2 => by rcases ht9 q h2 with h3 | h3; exact (aside_at (uh OSP).apart hi (uh HK2) hne).2.2 q h1 h3; have q1_ := uh PLT i p hi q (.inr h1); omega⟩))
      have NM9 : b9.name = dst := (addAll_name _ _ _ ha).trans (uh ND)
      have HPN : Hid ((P.set k2 ((⟨b9, m9, t9⟩ : Lb), g2)).map (·.1.b) = putX b9 s.boxes) := by show _ = _; rw [List.map_set, uh HPP, putX_at (uh HB2) (by rw [NM9]; exact sameN_iff.2 (uh ND)) (by rw [NM9]; exact uh HNO2)]
      clear hyes hg hob hox hm9 ht9 OSP OM G2 ha NM9; have Oc0_4 := (uh O).cell 0 rfl; have Oc1_4 := (uh O).cell 1 rfl; have Oc2_4 := (uh O).cell 2 rfl; go_wp2_with fail; clear Oc0_4 Oc1_4 Oc2_4
      refine (stored_any _ mbP s.valid _ (P.set k2 ((⟨b9, m9, t9⟩ : Lb), g2)) _ (by rw [List.length_set]; exact open_len (uh HPP) (uh FT)) (uh ROW) (uh OBJ)).mono ?_
      rintro e wcy9 ⟨v9, rfl, o9, hb⟩
      obtain ⟨a9, c9, rfl⟩ := g_shape o9
      have OW_ := hide (own_of (uh OBJ) (uh APS) (uh HPN) o9 hb (uh BB).size); clear o9
      have NL : (List.map (fun x => x.1) (P.set k2 ((⟨b9, m9, t9⟩ : Lb), g2))).length = s.boxes.length := by rw [List.length_map, List.length_set, ← uh HPP, List.length_map]
      rw [NL] at OW_ ⊢
      clear NL S1; replace A := hide ((uh A).ups hb); replace R := hide ((uh R).ups hb); replace O := hide ((uh O).ups hb); have sz10 := hide (hb.size); replace BB := hide (below_y (uh BB) hb); clear hb; have OW := OW_; clear OW_; have Rf0 := (uh R).frozen 0; have Rf1 := (uh R).frozen 1; have Re0 := (uh R).cell 0 rfl; have Re1 := (uh R).cell 1 rfl; have F := hide (fill2 (uh R) (.slice a9 s.boxes.length c9) (.int .i64 s.valid))
      obtain ⟨U, hU⟩ : ∃ U, U = ((wcy9.setCell ⟨wc1.heap.size, 0, none⟩ (.slice a9 s.boxes.length c9)).setCell ⟨wc1.heap.size, 1, none⟩ (.int .i64 s.valid)) := ⟨_, rfl⟩
      have F9 := uh F
      rw [← hU] at F9
      have EU := hU.symm; clear F hU; have v0 := F9.obj.cell 0 rfl; have v1 := F9.obj.cell 1 rfl; have F := hide F9; clear F9
      go_wp2_with (refine bodyPost_ret (by simp [results, Tryz.results27, go_sem, v0, v1]; try rfl) rfl ?_)
      clear EU; have F := uh F
      rw [uh ANS]
      exact ⟨_, rfl, (uh OW).filled F (by decide) (by decide) (by decide), F.below loR (uh BB)⟩
end Go.Proofs.YtecognggnbopaacGreat
