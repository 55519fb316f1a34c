/- The program's PutBox, addMails and CopyMails. -/
import Derived.Test.YtfemplekibpfoacOpenTop
import Derived.Test.YtfemplekibpfoacStorePlain2
import Derived.Test.YtfemplekibpfoacCopyPlain
import Derived.Test.YtfemplekibpfoacBoxI
import Derived.Test.YtfemplekibpfoacImplHas
import Derived.Test.YtfemplekibpfoacBoxKeeps
import Derived.Test.YtfemplekibpfoacFlagRows
import Derived.Test.YtfemplekibpfoacRegA
import Derived.Deep.CutRange
import Derived.Test.YtfemplekibpfoacStoreOkI
import Derived.Test.YtfemplekibpfoacImplOk
/- The program's PutBox. Made by gen_stores.py. -/
namespace Go.Proofs.Ytfemplekibpfoac
open Go.RowKit
open Plain
set_option linter.unusedVariables false
set_option linter.unusedSimpArgs false

theorem set_cases {P : List (Lb × Nat)} {k : Nat} {q p : Lb × Nat} (h : p ∈ P.set k q) : p = q ∨ ∃ i, i ≠ k ∧ P[i]? = some p := by
  obtain ⟨i, hi⟩ := List.mem_iff_getElem?.1 h
  rw [List.getElem?_set] at hi
  split at hi
  · split at hi
    · exact .inl (Option.some.inj hi).symm
    · cases hi
  · exact .inr ⟨i, fun e => by rename_i hne; exact hne e.symm, hi⟩
theorem aside_at {P : List (Lb × Nat)} (hap : P.Pairwise AsideB) {i k : Nat} {p q : Lb × Nat} (hi : P[i]? = some p) (hk : P[k]? = some q) (hne : i ≠ k) : p.2 ≠ q.2 ∧ ApartB p.1 q.1 := by
  obtain ⟨h1, rfl⟩ := List.getElem?_eq_some_iff.1 hi
  obtain ⟨h2, rfl⟩ := List.getElem?_eq_some_iff.1 hk
  rcases Nat.lt_or_gt_of_ne hne with h | h
  · exact List.pairwise_iff_getElem.1 hap i k h1 h2 h
  · have := List.pairwise_iff_getElem.1 hap k i h2 h1 h
    exact ⟨this.1.symm, this.2.symm⟩
theorem aside_set {P : List (Lb × Nat)} (hap : P.Pairwise AsideB) {k g : Nat} {x y : Lb} (hk : P[k]? = some (x, g)) (hn : ∀ p ∈ P, ApartB p.1 y) : (P.set k (y, g)).Pairwise AsideB := by
  rw [List.pairwise_iff_getElem]
  intro i j hi hj hij
  rw [List.length_set] at hi hj
  have hi' := List.getElem?_eq_getElem hi
  have hj' := List.getElem?_eq_getElem hj
  rw [List.getElem_set, List.getElem_set]
  by_cases h1 : k = i
  · rw [if_pos h1, if_neg (by omega)]
    subst h1
    exact ⟨(aside_at hap hj' hk (by omega)).1.symm, (hn _ (List.getElem_mem hj)).symm⟩
  · rw [if_neg h1]
    by_cases h2 : k = j
    · rw [if_pos h2]
      subst h2
      exact ⟨(aside_at hap hi' hk (by omega)).1, hn _ (List.getElem_mem hi)⟩
    · rw [if_neg h2]
      exact List.pairwise_iff_getElem.1 hap i j hi hj hij
theorem blocks_set {P : List (Lb × Nat)} {k g : Nat} {x : Lb} (y : Lb) (hk : P[k]? = some (x, g)) : (P.set k (y, g)).map (·.2) = P.map (·.2) := by
  rw [List.map_set]
  obtain ⟨h1, h2⟩ := List.getElem?_eq_some_iff.1 hk
  apply List.ext_getElem (by simp)
  intro i hi hi2
  rw [List.getElem_set]
  split
  · rename_i e
    subst e
    rw [List.getElem_map, h2]
  · rfl
theorem ObjsB.write {B : Nat} {W U : World} {P : List (Lb × Nat)} {k g : Nat} {x y : Lb} (h : ObjsB B W P) (hap : P.Pairwise AsideB) (hk : P[k]? = some (x, g)) (F : Filled W g 39 (lbC y) U) (hy : OwnBx B W y.m y.t y.b) : ObjsB B U (P.set k (y, g)) := by
  intro p hp
  rcases set_cases hp with rfl | ⟨i, hne, hi⟩
  · exact ⟨(h _ (List.mem_of_getElem? hk)).1, F.obj, ⟨F.row (by decide) hy.1, F.row (by decide) hy.2⟩⟩
  · have hm := h p (List.mem_of_getElem? hi)
    exact ⟨hm.1, F.other (aside_at hap hi hk hne).1 hm.2.1, ⟨F.row (by decide) hm.2.2.1, F.row (by decide) hm.2.2.2⟩⟩
theorem own_of {B : Nat} {w w' : World} {v' : Value} {P : List (Lb × Nat)} {l : List Bx} (ho : ObjsB B w P) (hap : P.Pairwise AsideB) (hP : P.map (·.1.b) = l) (hr : OwnBr w.heap.size w' v' (P.map (·.1))) (hb : Below w.heap.size w w') (hB : B ≤ w.heap.size) : OwnSt B w' v' l := by
  refine ⟨P.map (·.1), by rw [List.map_map]; exact hP, ⟨hr.based hB, fun x hx => ?_⟩, ?_⟩
  · obtain ⟨p, hp, rfl⟩ := List.mem_map.1 hx
    exact (ho p hp).2.2.up hb
  · rw [List.pairwise_map]
    exact hap.imp fun h => h.2
set_option maxHeartbeats 8000000 in
set_option maxRecDepth 100000 in
theorem impl_PutBox_any (s : Sx) (b : Bx) (v m t : Value) (B B2 : Nat) (w : World) (hf : FitSt s) (hfb : FitBx b) (h : ReadSt B w v s.boxes) (hb : OwnBx B2 w m t b) :
    Calls Try.prog 13 #[.agg #[v, .int .i64 s.valid], boxV b m t] w fun e w' => ∃ v', e = .returned (.agg #[v', .int .i64 s.valid]) ∧ OwnSt w.heap.size w' v' (putX b s.boxes) ∧ Below w.heap.size w w' := by
  obtain ⟨a0, c0, rfl⟩ := h.shape
  obtain ⟨am, cm, rfl⟩ := g_shape hb.1
  obtain ⟨at1, ct1, rfl⟩ := g_shape hb.2
  have S1 := hide h; have OB := hide hb; have FT := hide hf; have FB := hide hfb; have FLD := field_named; clear h hb hf hfb; have BB := hide (Below.refl w.heap.size w)
  obtain ⟨wi1, hA⟩ : ∃ X, X = w.alloc (.cells ([.slice a0 s.boxes.length c0, .int .i64 s.valid] : List Value).toArray 33) := ⟨_, rfl⟩
  have Ax : HasObj wi1 w.heap.size 33 [.slice a0 s.boxes.length c0, .int .i64 s.valid] := by rw [hA]; exact HasObj.new _ _ _
  have hbn : Below w.heap.size w wi1 := by rw [hA]; exact (Below.refl _ _).alloc (Nat.le_refl _) _
  have loA : w.heap.size ≤ w.heap.size := (unhide BB).size
  have EA := hA.symm; clear hA; replace S1 := hide ((unhide S1).up hbn); replace OB := hide ((unhide OB).up hbn); have sz1 := hide (hbn.size); replace BB := hide (below_y (unhide BB) hbn); clear hbn; have A := hide Ax; clear Ax
  obtain ⟨wi2, hV⟩ : ∃ X, X = wi1.alloc (.cells ([.string b.name, .int .i64 b.valid, .int .i64 b.next, .int .i64 b.mod, .slice am b.mails.length cm, .slice at1 b.tombs.length ct1, .int .i64 b.hor] : List Value).toArray 39) := ⟨_, rfl⟩
  have Vx : HasObj wi2 wi1.heap.size 39 [.string b.name, .int .i64 b.valid, .int .i64 b.next, .int .i64 b.mod, .slice am b.mails.length cm, .slice at1 b.tombs.length ct1, .int .i64 b.hor] := by rw [hV]; exact HasObj.new _ _ _
  have hbn : Below wi1.heap.size wi1 wi2 := by rw [hV]; exact (Below.refl _ _).alloc (Nat.le_refl _) _
  have neAV : w.heap.size ≠ wi1.heap.size := Nat.ne_of_lt (unhide A).lt
  have loV : w.heap.size ≤ wi1.heap.size := (unhide BB).size
  have EV := hV.symm; clear hV; replace A := hide ((unhide A).ups hbn); replace S1 := hide ((unhide S1).up hbn); replace OB := hide ((unhide OB).up hbn); have sz2 := hide (hbn.size); replace BB := hide (below_y (unhide BB) hbn); clear hbn; have V := hide Vx; clear Vx
  obtain ⟨wi3, hR⟩ : ∃ X, X = wi2.alloc (.cells ([.slice none 0 0, .int .i64 0] : List Value).toArray 33) := ⟨_, rfl⟩
  have Rx : HasObj wi3 wi2.heap.size 33 [.slice none 0 0, .int .i64 0] := by rw [hR]; exact HasObj.new _ _ _
  have hbn : Below wi2.heap.size wi2 wi3 := by rw [hR]; exact (Below.refl _ _).alloc (Nat.le_refl _) _
  have neAR : w.heap.size ≠ wi2.heap.size := Nat.ne_of_lt (unhide A).lt
  have neVR : wi1.heap.size ≠ wi2.heap.size := Nat.ne_of_lt (unhide V).lt
  have loR : w.heap.size ≤ wi2.heap.size := (unhide BB).size
  have ER := hR.symm; clear hR; replace A := hide ((unhide A).ups hbn); replace V := hide ((unhide V).ups hbn); replace S1 := hide ((unhide S1).up hbn); replace OB := hide ((unhide OB).up hbn); have sz3 := hide (hbn.size); replace BB := hide (below_y (unhide BB) hbn); clear hbn; have R := hide Rx; clear Rx; have Ac0_1 := (unhide A).cell 0 rfl; have Ac1_1 := (unhide A).cell 1 rfl
  go_enter Try.func13, Try.ntmps13
  go_wp2_with fail; clear Ac0_1 Ac1_1 EA EV ER
  have LOP : Hid (w.heap.size ≤ wi3.heap.size) := (unhide BB).size
  refine (openedStore_any s _ _ _ (unhide FT) (unhide S1)).mono ?_
  rintro e wi4 ⟨vP, mbP, P, hPP, rfl, oS, hb⟩
  obtain ⟨aP, cP, rfl⟩ := g_shape oS.row
  rw [List.length_map] at oS ⊢
  have OSP_ := hide (oS.based (unhide LOP)); have HPP := hide hPP; clear oS hPP; replace A := hide ((unhide A).ups hb); replace V := hide ((unhide V).ups hb); replace R := hide ((unhide R).ups hb); replace S1 := hide ((unhide S1).up hb); replace OB := hide ((unhide OB).up hb); have sz4 := hide (hb.size); replace BB := hide (below_y (unhide BB) hb); clear hb; have OSP := OSP_; clear OSP_
  replace LOP : Hid (w.heap.size ≤ wi4.heap.size) := (unhide BB).size
  obtain ⟨wi5, hO⟩ : ∃ X, X = wi4.alloc (.cells ([.slice aP P.length cP, .map (some mbP), .int .i64 s.valid] : List Value).toArray 77) := ⟨_, rfl⟩
  have Ox : HasObj wi5 wi4.heap.size 77 [.slice aP P.length cP, .map (some mbP), .int .i64 s.valid] := by rw [hO]; exact HasObj.new _ _ _
  have hbn : Below wi4.heap.size wi4 wi5 := by rw [hO]; exact (Below.refl _ _).alloc (Nat.le_refl _) _
  have neAO : w.heap.size ≠ wi4.heap.size := Nat.ne_of_lt (unhide A).lt
  have neVO : wi1.heap.size ≠ wi4.heap.size := Nat.ne_of_lt (unhide V).lt
  have neRO : wi2.heap.size ≠ wi4.heap.size := Nat.ne_of_lt (unhide R).lt
  have loO : w.heap.size ≤ wi4.heap.size := (unhide BB).size
  have EO := hO.symm; clear hO; replace A := hide ((unhide A).ups hbn); replace V := hide ((unhide V).ups hbn); replace R := hide ((unhide R).ups hbn); replace S1 := hide ((unhide S1).up hbn); replace OB := hide ((unhide OB).up hbn); replace OSP := hide ((unhide OSP).up hbn); have sz5 := hide (hbn.size); replace BB := hide (below_y (unhide BB) hbn); clear hbn; have O := hide Ox; clear Ox; have LK := (unhide OSP).look (unhide FB).name
  cases hfb : findB P b.name with
  | none =>
    rw [hfb] at LK
    simp only [ptrOf] at LK
    have ANS : Hid (putX b s.boxes = s.boxes) := putX_no (by intro y hy; rw [← unhide HPP] at hy; obtain ⟨z, hz, rfl⟩ := List.mem_map.1 hy; exact findB_none hfb z hz)
    clear hfb; have Oc0_2 := (unhide O).cell 0 rfl; have Oc1_2 := (unhide O).cell 1 rfl; have Oc2_2 := (unhide O).cell 2 rfl; have Vc0_3 := (unhide V).cell 0 rfl; have Vc1_3 := (unhide V).cell 1 rfl; have Vc2_3 := (unhide V).cell 2 rfl; have Vc3_3 := (unhide V).cell 3 rfl; have Vc4_3 := (unhide V).cell 4 rfl; have Vc5_3 := (unhide V).cell 5 rfl; have Vc6_3 := (unhide V).cell 6 rfl; have Oc0_4 := (unhide O).cell 0 rfl; have Oc1_4 := (unhide O).cell 1 rfl; have Oc2_4 := (unhide O).cell 2 rfl; go_wp2_with fail; clear Oc0_2 Oc1_2 Oc2_2 Vc0_3 Vc1_3 Vc2_3 Vc3_3 Vc4_3 Vc5_3 Vc6_3 Oc0_4 Oc1_4 Oc2_4 EO
    refine (stored_any _ mbP s.valid _ (P) _ (open_len (unhide HPP) (unhide FT)) ((unhide OSP).row) ((unhide OSP).objs)).mono ?_
    rintro e win6 ⟨v9, rfl, o9, hb⟩
    obtain ⟨a9, c9, rfl⟩ := g_shape o9
    have OW_ := hide (own_of ((unhide OSP).objs) ((unhide OSP).apart) (unhide HPP) o9 hb (unhide BB).size); clear o9
    have NL : (List.map (fun x => x.1) (P)).length = s.boxes.length := by rw [List.length_map, ← unhide HPP, List.length_map]
    rw [NL] at OW_ ⊢
    clear NL; replace A := hide ((unhide A).ups hb); replace V := hide ((unhide V).ups hb); replace R := hide ((unhide R).ups hb); replace O := hide ((unhide O).ups hb); have sz6 := hide (hb.size); replace BB := hide (below_y (unhide BB) hb); clear hb; have OW := OW_; clear OW_; have Rf0 := (unhide R).frozen 0; have Rf1 := (unhide R).frozen 1; have Re0 := (unhide R).cell 0 rfl; have Re1 := (unhide R).cell 1 rfl; have F := hide (fill2 (unhide R) (.slice a9 s.boxes.length c9) (.int .i64 s.valid))
    obtain ⟨U, hU⟩ : ∃ U, U = ((win6.setCell ⟨wi2.heap.size, 0, none⟩ (.slice a9 s.boxes.length c9)).setCell ⟨wi2.heap.size, 1, none⟩ (.int .i64 s.valid)) := ⟨_, rfl⟩
    have F9 := unhide F
    rw [← hU] at F9
    have EU := hU.symm; clear F hU; have v0 := F9.obj.cell 0 rfl; have v1 := F9.obj.cell 1 rfl; have F := hide F9; clear F9
    go_wp2_with (refine bodyPost_ret (by simp [results, Try.results13, go_sem, v0, v1]; try rfl) rfl ?_)
    clear EU; have F := unhide F
    rw [unhide ANS]
    exact ⟨_, rfl, (unhide OW).filled F (by decide) (by decide) (by decide), F.below loR (unhide BB)⟩
  | some g0 =>
    rw [hfb] at LK
    simp only [ptrOf] at LK
    obtain ⟨k, x, hk, hk2, hs2, hno, _⟩ := found_at (unhide HPP) hfb
    have ANS : Hid (putX b s.boxes = s.boxes.set k b) := putX_at hk2 hs2 hno
    have HK := hide hk; have G := hide ((unhide OSP).objs _ (List.mem_of_getElem? hk)).2.1
    have hloG : w.heap.size ≤ g0 := ((unhide OSP).objs _ (List.mem_of_getElem? hk)).1
    clear hk hk2 hs2 hno hfb
    simp only at G
    have Oc0_2 := (unhide O).cell 0 rfl; have Oc1_2 := (unhide O).cell 1 rfl; have Oc2_2 := (unhide O).cell 2 rfl; have Vc0_3 := (unhide V).cell 0 rfl; have Vc1_3 := (unhide V).cell 1 rfl; have Vc2_3 := (unhide V).cell 2 rfl; have Vc3_3 := (unhide V).cell 3 rfl; have Vc4_3 := (unhide V).cell 4 rfl; have Vc5_3 := (unhide V).cell 5 rfl; have Vc6_3 := (unhide V).cell 6 rfl
    have PLT : Hid (∀ z ∈ P, ∀ q, (z.1.m.ownBlock = some q ∨ z.1.t.ownBlock = some q) → q < wi5.heap.size) := fun z hz q hq => (((unhide OSP).objs z hz).2.2.base q hq).2
    go_wp2_with fail; clear Oc0_2 Oc1_2 Oc2_2 Vc0_3 Vc1_3 Vc2_3 Vc3_3 Vc4_3 Vc5_3 Vc6_3 EO
    refine (copiedBox_any b _ _ B2 _ (unhide FB) (unhide OB)).mono ?_
    rintro e wiy6 ⟨mC, tC, rfl, oC, hb⟩
    obtain ⟨amC, cmC, rfl⟩ := g_shape oC.1
    obtain ⟨atC, ctC, rfl⟩ := g_shape oC.2
    have NC := hide (OwnBx.base oC); replace A := hide ((unhide A).ups hb); replace V := hide ((unhide V).ups hb); replace R := hide ((unhide R).ups hb); replace O := hide ((unhide O).ups hb); replace G := hide ((unhide G).ups hb); replace OB := hide ((unhide OB).up hb); replace OSP := hide ((unhide OSP).up hb); have sz6 := hide (hb.size); replace BB := hide (below_y (unhide BB) hb); clear hb; have OC := hide oC; clear oC
    have APN : Hid (∀ p ∈ P, ApartB p.1 (⟨b, .slice amC b.mails.length cmC, .slice atC b.tombs.length ctC⟩ : Lb)) := fun z hz => ⟨fun q h1 h2 => by have q1 := unhide PLT z hz q (.inl h1); have q2 := (unhide NC q (.inl h2)).1; omega, fun q h1 h2 => by have q1 := unhide PLT z hz q (.inr h1); have q2 := (unhide NC q (.inr h2)).1; omega⟩
    have LO3 : w.heap.size ≤ wi5.heap.size := by have q1_ := unhide LOP; have sz1_ := unhide sz1; have sz2_ := unhide sz2; have sz3_ := unhide sz3; have sz4_ := unhide sz4; have sz5_ := unhide sz5; have sz6_ := unhide sz6; omega
    have Gf0 := (unhide G).frozen 0; have Gf1 := (unhide G).frozen 1; have Gf2 := (unhide G).frozen 2; have Gf3 := (unhide G).frozen 3; have Gf4 := (unhide G).frozen 4; have Gf5 := (unhide G).frozen 5; have Gf6 := (unhide G).frozen 6; have Ge0 := (unhide G).cell 0 rfl; have Ge1 := (unhide G).cell 1 rfl; have Ge2 := (unhide G).cell 2 rfl; have Ge3 := (unhide G).cell 3 rfl; have Ge4 := (unhide G).cell 4 rfl; have Ge5 := (unhide G).cell 5 rfl; have Ge6 := (unhide G).cell 6 rfl; have F_ := fill7 (unhide G) (.string b.name) (.int .i64 b.valid) (.int .i64 b.next) (.int .i64 b.mod) (.slice amC b.mails.length cmC) (.slice atC b.tombs.length ctC) (.int .i64 b.hor)
    obtain ⟨wiy7, hU⟩ : ∃ X, X = (((((((wiy6.setCell ⟨g0, 0, none⟩ (.string b.name)).setCell ⟨g0, 1, none⟩ (.int .i64 b.valid)).setCell ⟨g0, 2, none⟩ (.int .i64 b.next)).setCell ⟨g0, 3, none⟩ (.int .i64 b.mod)).setCell ⟨g0, 4, none⟩ (.slice amC b.mails.length cmC)).setCell ⟨g0, 5, none⟩ (.slice atC b.tombs.length ctC)).setCell ⟨g0, 6, none⟩ (.int .i64 b.hor)) := ⟨_, rfl⟩
    rw [← hU] at F_
    have EU := hU.symm; clear hU
    have OBJ := hide (ObjsB.write (y := (⟨b, .slice amC b.mails.length cmC, .slice atC b.tombs.length ctC⟩ : Lb)) (unhide OSP).objs (unhide OSP).apart (unhide HK) F_ ((unhide OC).based LO3))
    have ROW : Hid (OwnPt w.heap.size wiy7 (.slice aP P.length cP) ((P.set k ((⟨b, .slice amC b.mails.length cmC, .slice atC b.tombs.length ctC⟩ : Lb), g0)).map (·.2))) := by show OwnPt _ _ _ _; rw [blocks_set _ (unhide HK)]; exact F_.row (by decide) (unhide OSP).row
    have APS := hide (aside_set (unhide OSP).apart (unhide HK) (unhide APN))
    have HPN : Hid ((P.set k ((⟨b, .slice amC b.mails.length cmC, .slice atC b.tombs.length ctC⟩ : Lb), g0)).map (·.1.b) = putX b s.boxes) := by show _ = _; rw [List.map_set, unhide HPP, unhide ANS]
    have R_ := hide (F_.other (obj_ne (unhide R) (unhide G) (by decide)) (unhide R))
    have O_ := hide (F_.other (obj_ne (unhide O) (unhide G) (by decide)) (unhide O))
    have BB_ : Hid (Below w.heap.size w wiy7) := F_.below hloG (unhide BB)
    clear F_ R O BB G OSP OC OB V A; have R := R_; have O := O_; have BB := BB_; clear R_ O_ BB_; have Oc0_4 := (unhide O).cell 0 rfl; have Oc1_4 := (unhide O).cell 1 rfl; have Oc2_4 := (unhide O).cell 2 rfl; go_wp2_with fail; clear Gf0 Gf1 Gf2 Gf3 Gf4 Gf5 Gf6 Ge0 Ge1 Ge2 Ge3 Ge4 Ge5 Ge6 Oc0_4 Oc1_4 Oc2_4 EU
    refine (stored_any _ mbP s.valid _ (P.set k ((⟨b, .slice amC b.mails.length cmC, .slice atC b.tombs.length ctC⟩ : Lb), g0)) _ (by rw [List.length_set]; exact open_len (unhide HPP) (unhide FT)) (unhide ROW) (unhide OBJ)).mono ?_
    rintro e wiy8 ⟨v9, rfl, o9, hb⟩
    obtain ⟨a9, c9, rfl⟩ := g_shape o9
    have OW_ := hide (own_of (unhide OBJ) (unhide APS) (unhide HPN) o9 hb (unhide BB).size); clear o9
    have NL : (List.map (fun x => x.1) (P.set k ((⟨b, .slice amC b.mails.length cmC, .slice atC b.tombs.length ctC⟩ : Lb), g0))).length = s.boxes.length := by rw [List.length_map, List.length_set, ← unhide HPP, List.length_map]
    rw [NL] at OW_ ⊢
    clear NL; replace R := hide ((unhide R).ups hb); replace O := hide ((unhide O).ups hb); have sz7 := hide (hb.size); replace BB := hide (below_y (unhide BB) hb); clear hb; have OW := OW_; clear OW_; have Rf0 := (unhide R).frozen 0; have Rf1 := (unhide R).frozen 1; have Re0 := (unhide R).cell 0 rfl; have Re1 := (unhide R).cell 1 rfl; have F := hide (fill2 (unhide R) (.slice a9 s.boxes.length c9) (.int .i64 s.valid))
    obtain ⟨U, hU⟩ : ∃ U, U = ((wiy8.setCell ⟨wi2.heap.size, 0, none⟩ (.slice a9 s.boxes.length c9)).setCell ⟨wi2.heap.size, 1, none⟩ (.int .i64 s.valid)) := ⟨_, rfl⟩
    have F9 := unhide F
    rw [← hU] at F9
    have EU := hU.symm; clear F hU; have v0 := F9.obj.cell 0 rfl; have v1 := F9.obj.cell 1 rfl; have F := hide F9; clear F9
    go_wp2_with (refine bodyPost_ret (by simp [results, Try.results13, go_sem, v0, v1]; try rfl) rfl ?_)
    clear EU; have F := unhide F
    skip
    exact ⟨_, rfl, (unhide OW).filled F (by decide) (by decide) (by decide), F.below loR (unhide BB)⟩
end Go.Proofs.Ytfemplekibpfoac

/- The program's mailsIn and addMails. Made by gen_stores.py. -/
namespace Go.Proofs.Ytfemplekibpfoac
open Go.RowKit
open Plain
set_option linter.unusedVariables false
set_option linter.unusedSimpArgs false

namespace Plain
def inTo (set : List Rg) (b : Bx) (k : Nat) : List Ml := (b.mails.take k).filter fun m => hasB set m.uid
theorem inTo_yes {set : List Rg} {b : Bx} {k : Nat} {m : Ml} (h : b.mails[k]? = some m) (hh : hasB set m.uid = true) : inTo set b (k + 1) = inTo set b k ++ [m] := by unfold inTo; rw [List.take_add_one, h, List.filter_append]; simp [hh]
theorem inTo_no {set : List Rg} {b : Bx} {k : Nat} {m : Ml} (h : b.mails[k]? = some m) (hh : hasB set m.uid = false) : inTo set b (k + 1) = inTo set b k := by unfold inTo; rw [List.take_add_one, h, List.filter_append]; simp [hh]
theorem inTo_len (set : List Rg) (b : Bx) (k : Nat) : (inTo set b k).length ≤ k := Nat.le_trans (List.length_filter_le _ _) (by rw [List.length_take]; omega)
theorem inTo_all (set : List Rg) (b : Bx) : inTo set b b.mails.length = inSet set b := by unfold inTo inSet; rw [List.take_length]
end Plain
set_option maxHeartbeats 8000000 in
set_option maxRecDepth 100000 in
theorem mailsIn_any (b : Bx) (m t : Value) (g : Nat) (set : List Rg) (vs : Value) (B B2 : Nat) (w : World) (hl : b.mails.length ≤ 1048576) (hs : set.length ≤ 1048576) (hg : HasObj w g 39 (lbC ⟨b, m, t⟩)) (h : OwnBx B w m t b) (h2 : OwnR B2 w vs set) :
    Calls Try.prog 69 #[.pointer (some ⟨g, 0, none⟩), vs] w fun e w' => ∃ v, e = .returned v ∧ OwnMl w.heap.size w' v (inSet set b) ∧ Below w.heap.size w w' := by
  obtain ⟨iM, hM, hM0, hM1, hM2⟩ := info_parts Try.infoMail
  obtain ⟨am, cm, rfl⟩ := g_shape h.1
  have OX := hide h.1; have RS := hide h2
  have LTX : Hid (∀ q, Value.ownBlock (.slice am b.mails.length cm) = some q → q < w.heap.size) := fun q hq => (World.ownsRow.lt h.1 q hq).2
  have gc := hg.cell 4 rfl
  simp only at gc
  clear h h2 hg; have BB := hide (Below.refl w.heap.size w)
  go_enter Try.func69, Try.ntmps69
  go_wp2
  clear gc
  go_loopw [5, 13] (fun v i wr => ∃ (k : Nat) (av : Option Addr) (cv : Nat), k ≤ b.mails.length ∧ v = .slice av (inTo set b k).length cv ∧ i = .int .i64 k ∧ OwnMl w.heap.size wr (.slice av (inTo set b k).length cv) (inTo set b k) ∧ OwnMl B wr (.slice am b.mails.length cm) b.mails ∧ OwnR B2 wr vs set ∧ Below w.heap.size w wr) (fun _ i _ => b.mails.length - (intOf i).toNat)
  case atStart => exact ⟨0, none, 0, Nat.zero_le _, rfl, rfl, World.ownsRow_nil _ _ _ _, unhide OX, unhide RS, unhide BB⟩
  clear OX RS BB
  case round =>
    obtain ⟨k, av, cv, hk, rfl, rfl, oM, oX, oR, hbel⟩ := hrel
    obtain ⟨wo, hwo⟩ : ∃ wo, wo = wr := ⟨_, rfl⟩
    subst hwo
    by_cases hlt : k < b.mails.length
    · have hgk : b.mails[k]? = some b.mails[k] := List.getElem?_eq_getElem hlt
      obtain ⟨gb, qb, e1, _, c0, c1, c2, c3⟩ := ml_read oX (Below.refl _ _) hgk
      have e3 := (Value.slice.inj e1).1; clear e1
      subst e3
      have LN := inTo_len set b k
      have LTM : Hid (∀ q, Value.ownBlock (.slice av (inTo set b k).length cv) = some q → q < wo.heap.size) := fun q hq => (World.ownsRow.lt oM q hq).2
      have HGK := hide hgk
      generalize b.mails[k] = f at *
      have OM := hide oM; have OX := hide oX; have RS := hide oR; have BB := hide hbel; have hlo9 := hbel.size; clear oM oX oR hbel hgk
      have i1 : (0 : Int) ≤ (k : Int) := by omega
      have i2 : (k : Int) < (b.mails.length : Int) := by omega
      obtain ⟨wmr1, hM⟩ : ∃ X, X = wo.alloc (.cells ([.int .i64 f.uid, .int .i64 f.flags, .int .i64 f.mod, .string f.text] : List Value).toArray 98) := ⟨_, rfl⟩
      have Mx : HasObj wmr1 wo.heap.size 98 [.int .i64 f.uid, .int .i64 f.flags, .int .i64 f.mod, .string f.text] := by rw [hM]; exact HasObj.new _ _ _
      have hbn : Below wo.heap.size wo wmr1 := by rw [hM]; exact (Below.refl _ _).alloc (Nat.le_refl _) _
      have loM : w.heap.size ≤ wo.heap.size := (unhide BB).size
      have EM := hM.symm; clear hM; replace OM := hide ((unhide OM).up hbn); replace OX := hide ((unhide OX).up hbn); replace RS := hide ((unhide RS).up hbn); have sz101 := hide (hbn.size); replace BB := hide (below_y (unhide BB) hbn); clear hbn; have M := hide Mx; clear Mx; have Mc0_1 := (unhide M).cell 0 rfl; have Mc1_1 := (unhide M).cell 1 rfl; have Mc2_1 := (unhide M).cell 2 rfl; have Mc3_1 := (unhide M).cell 3 rfl; go_wp2_with fail; clear c0 c1 c2 c3 Mc0_1 Mc1_1 Mc2_1 Mc3_1 EM
      refine (impl_SetHas_any set vs f.uid _ hs (unhide RS).wide).mono ?_
      rintro e wmr2 ⟨rfl, hb⟩
      replace M := hide ((unhide M).ups hb); replace OM := hide ((unhide OM).up hb); replace OX := hide ((unhide OX).up hb); replace RS := hide ((unhide RS).up hb); have sz102 := hide (hb.size); replace BB := hide (below_y (unhide BB) hb); clear hb
      cases hd : hasB set f.uid with
      | false =>
        have NX := hide (inTo_no (unhide HGK) hd)
        rw [← unhide NX] at OM ⊢
        go_wp2
        go_roundw
        case rel => exact ⟨k + 1, av, cv, by omega, rfl, by go_num, unhide OM, unhide OX, unhide RS, unhide BB⟩
        case measure => simp [intOf]; omega
      | true =>
        have NX := hide (inTo_yes (unhide HGK) hd); have Mc0_2 := (unhide M).cell 0 rfl; have Mc1_2 := (unhide M).cell 1 rfl; have Mc2_2 := (unhide M).cell 2 rfl; have Mc3_2 := (unhide M).cell 3 rfl; have lw3 := (unhide BB).size
        go_wp2_with (at_builtin; refine wpList_append_lies _ rfl _ _ 36 rfl w.heap.size 98 iM _ 4 40 Try.underlying36 hM hM0 hM1 hM2 rfl (by decide) _ _ _ rfl (World.ownsRow.alloc (unhide OM) _) ⟨wmr2.heap.size, 0, none⟩ 1 1 (mlC f) rfl rfl (newsC _ _) ?c2 (by decide) ?c3 ?c4 ?c5 (wmr2.heap.size + 1) (by simp) ?_)
        clear Mc0_2 Mc1_2 Mc2_2 Mc3_2
        case c2 => intro u hu; simp [mlC, tbC, rgl] at hu; (try rcases hu with rfl | rfl | rfl | rfl) <;> (try rcases hu with rfl | rfl) <;> (try subst hu) <;> rfl
        case c3 => unfold maxLen; omega
        case c4 => omega
        case c5 => have q1_ := (unhide BB).size; have sz101_ := unhide sz101; have sz102_ := unhide sz102; simp; omega
        intro gOM3 capOM3 wma3 hown hgr hat hlt_
        have oa := World.ownsRow.alloc (unhide OM) (.cells ((mlC f) : List Value).toArray 98)
        have M_ := hide (((unhide M).alloc (.cells ((mlC f) : List Value).toArray 98)).kept hgr (fun e => by have q1_ := unhide LTM _ e.symm; omega))
        have OX_ : Hid (OwnMl B wma3 (.slice (some ⟨gb, 0, none⟩) b.mails.length cm) (b.mails)) := g_aside (World.ownsRow.alloc (unhide OX) (.cells ((mlC f) : List Value).toArray 98)) hgr (fun x hx hx2 => by have q1_ := unhide LTX x hx2; have q2_ := (World.ownsRow.lt (unhide OM) x hx).1; omega)
        have RS_ : Hid (OwnR B2 wma3 (vs) (set)) := g_aside (World.ownsRow.alloc (unhide RS) (.cells ((mlC f) : List Value).toArray 98)) hgr (fun x hx => rows_apart (oa) (World.ownsRow.alloc (unhide RS) (.cells ((mlC f) : List Value).toArray 98)) (by decide) x hx)
        have OM_ : Hid (OwnMl w.heap.size wma3 (.slice (some ⟨gOM3, 0, none⟩) ((inTo set b k).length + 1) capOM3) (inTo set b (k + 1))) := by show OwnMl _ _ _ _; rw [unhide NX]; exact OwnMl.snoc hown
        have BB_ : Hid (Below w.heap.size w wma3) := ((unhide BB).alloc (unhide BB).size _).grown hgr (by have q1_ := (unhide BB).size; simp; omega) (fun b hb => by have q2_ := (World.ownsRow.lt (unhide OM) b hb).1; have q1_ := (unhide BB).size; have sz101_ := unhide sz101; have sz102_ := unhide sz102; omega)
        have sz103 : Hid (wmr2.heap.size ≤ wma3.heap.size) := by have q3_ := hgr.size; simp at q3_; show _ ≤ _; omega
        replace M := M_; clear M_; replace OM := OM_; clear OM_; replace OX := OX_; clear OX_; replace RS := RS_; clear RS_; replace BB := BB_; clear BB_; clear hown hgr oa lw3 hat hlt_
        have e9 : (inTo set b k).length + 1 = (inTo set b (k + 1)).length := by rw [unhide NX, List.length_append]; rfl
        rw [e9] at OM ⊢
        clear e9
        go_wp2
        go_roundw
        case rel => exact ⟨k + 1, _, _, by omega, rfl, by go_num, unhide OM, unhide OX, unhide RS, unhide BB⟩
        case measure => simp [intOf]; omega
    · obtain rfl : k = b.mails.length := by omega
      have OM := hide oM; have BB := hide hbel; clear oM oX oR hbel
      go_wp2
      go_ret
      exact ⟨_, rfl, by rw [← inTo_all]; exact unhide OM, unhide BB⟩
theorem fill_grown {W : World} {g : Nat} {u0 u1 u2 u3 u4 u5 u6 : Value} : W.grownBy (((((((W.setCell ⟨g, 0, none⟩ u0).setCell ⟨g, 1, none⟩ u1).setCell ⟨g, 2, none⟩ u2).setCell ⟨g, 3, none⟩ u3).setCell ⟨g, 4, none⟩ u4).setCell ⟨g, 5, none⟩ u5).setCell ⟨g, 6, none⟩ u6) (some g) := g_store (g_store (g_store (g_store (g_store (g_store (g_store (g_self _ _) _) _) _) _) _) _) _
set_option maxHeartbeats 16000000 in
set_option maxRecDepth 100000 in
theorem addMails_any (b : Bx) (m t : Value) (g : Nat) (ms : List Ml) (vm : Value) (B B2 : Nat) (w : World) (hok : boxOk b = true) (hl : ms.length ≤ 1048576) (hx : ∀ x ∈ ms, x.text.size ≤ 1048576) (hB : B ≤ w.heap.size) (hg : HasObj w g 39 (lbC ⟨b, m, t⟩)) (h : OwnBx B w m t b) (h2 : OwnMl B2 w vm ms) :
    Calls Try.prog 68 #[.pointer (some ⟨g, 0, none⟩), vm] w fun e w' => e = .returned (.bool (addAll b ms).isSome) ∧ (∀ b', addAll b ms = some b' → ∃ m' t', boxOk b' = true ∧ HasObj w' g 39 (lbC ⟨b', m', t'⟩) ∧ OwnBx B w' m' t' b' ∧ (∀ q, m'.ownBlock = some q → m.ownBlock = some q ∨ w.heap.size ≤ q) ∧ ∀ q, t'.ownBlock = some q → t.ownBlock = some q ∨ w.heap.size ≤ q) ∧ w.grownBy w' (some g) := by
  obtain ⟨n, hn⟩ : ∃ n, n = ms.length := ⟨_, rfl⟩
  obtain ⟨av, cv, rfl⟩ := g_shape h2
  rw [← hn]
  have gm : g < w.heap.size := hg.lt
  have HN := hide hn; have HX := hide hx; have G0 := hide hg; have O0 := hide h
  have M0 : Hid (OwnMl B2 w (.slice av n cv) ms) := by show OwnMl _ _ _ _; rw [← hn] at h2; exact h2
  have BT : Hid (∀ q, (Value.slice av n cv).ownBlock = some q → q ≠ g) := fun q hq e => hg.not_row (by decide) (unhide M0) (by rw [hq, e])
  rw [← hn] at hl
  clear hn hg h h2 hx
  go_enter Try.func68, Try.ntmps68
  go_wp2
  obtain ⟨REL, HREL⟩ : ∃ REL : Value → World → Prop, Hid (REL = fun i wr => ∃ (k : Nat) (x : Lb), k ≤ n ∧ i = .int .i64 k ∧ boxOk x.b = true ∧ addAll b ms = addAll x.b (ms.drop k) ∧ HasObj wr g 39 (lbC x) ∧ OwnBx B wr x.m x.t x.b ∧ (∀ q, x.m.ownBlock = some q → m.ownBlock = some q ∨ w.heap.size ≤ q) ∧ (∀ q, x.t.ownBlock = some q → t.ownBlock = some q ∨ w.heap.size ≤ q) ∧ OwnMl B2 wr (.slice av n cv) ms ∧ w.grownBy wr (some g)) := ⟨_, rfl⟩
  go_loopw [11] (fun i wr => REL i wr) (fun i _ => n - (intOf i).toNat)
  case atStart => rw [unhide HREL]; exact ⟨0, ⟨b, m, t⟩, Nat.zero_le _, rfl, hok, rfl, unhide G0, unhide O0, fun q h => .inl h, fun q h => .inl h, unhide M0, g_self _ _⟩
  clear G0 O0 M0
  case round =>
    rw [unhide HREL] at hrel
    obtain ⟨k, x, hk, rfl, hxk, hall, oG, oX, am1, at1_, oM, hgr⟩ := hrel
    obtain ⟨wo, hwo⟩ : ∃ wo, wo = wr := ⟨_, rfl⟩
    subst hwo
    by_cases hlt : k < n
    · have hkl : k < ms.length := by rw [← unhide HN]; exact hlt
      have hgk : ms[k]? = some ms[k] := List.getElem?_eq_getElem hkl
      obtain ⟨gb, qb, e1, _, c0, c1, c2, c3⟩ := ml_read oM (Below.refl _ _) hgk
      have e3 := (Value.slice.inj e1).1; clear e1
      subst e3
      have htx := unhide HX _ (List.getElem_mem hkl); have DK := hide (show ms.drop k = ms[k] :: ms.drop (k + 1) from List.drop_eq_getElem_cons hkl)
      generalize ms[k] = f at *
      clear hgk hkl
      obtain ⟨xb, xm, xt⟩ := x
      simp only at hxk hall oX am1 at1_
      obtain ⟨amx, cmx, rfl⟩ := g_shape oX.1
      obtain ⟨atx, ctx, rfl⟩ := g_shape oX.2
      have FX := hide (fit_ok hxk); have h30 := (head_parts (boxOk_iff.1 hxk).1).2.2.2.2.1; have HALL := hide hall; have A1 := hide am1; have A2 := hide at1_; have G := hide oG; have OX := hide oX; have OM := hide oM; have BB := hide hgr
      have hlo9 : w.heap.size ≤ wo.heap.size := hgr.size
      clear hall am1 at1_ oG oX oM hgr
      have i1 : (0 : Int) ≤ (k : Int) := by omega
      have i2 : (k : Int) < (n : Int) := by omega
      obtain ⟨wdr1, hM⟩ : ∃ X, X = wo.alloc (.cells ([.int .i64 f.uid, .int .i64 f.flags, .int .i64 f.mod, .string f.text] : List Value).toArray 98) := ⟨_, rfl⟩
      have Mx : HasObj wdr1 wo.heap.size 98 [.int .i64 f.uid, .int .i64 f.flags, .int .i64 f.mod, .string f.text] := by rw [hM]; exact HasObj.new _ _ _
      have hbn : Below wo.heap.size wo wdr1 := by rw [hM]; exact (Below.refl _ _).alloc (Nat.le_refl _) _
      have neGM : g ≠ wo.heap.size := Nat.ne_of_lt (unhide G).lt
      have loM : w.heap.size ≤ wo.heap.size := (unhide BB).size
      have EM := hM.symm; clear hM; replace G := hide ((unhide G).ups hbn); replace OX := hide ((unhide OX).up hbn); replace OM := hide ((unhide OM).up hbn); have sz101 := hide (hbn.size); replace BB := hide (g_then (unhide BB) hbn); clear hbn; have M := hide Mx; clear Mx; have Mc0_1 := (unhide M).cell 0 rfl; have Mc1_1 := (unhide M).cell 1 rfl; have Mc2_1 := (unhide M).cell 2 rfl; have Mc3_1 := (unhide M).cell 3 rfl; have Gc0_2 := (unhide G).cell 0 rfl; have Gc1_2 := (unhide G).cell 1 rfl; have Gc2_2 := (unhide G).cell 2 rfl; have Gc3_2 := (unhide G).cell 3 rfl; have Gc4_2 := (unhide G).cell 4 rfl; have Gc5_2 := (unhide G).cell 5 rfl; have Gc6_2 := (unhide G).cell 6 rfl
      go_wp2
      obtain ⟨z, uid, hz⟩ : ∃ z uid, (z, uid) = addV xb f.flags f.text := ⟨_, _, rfl⟩
      have HZ := hide hz; clear hz; clear c0 c1 c2 c3 Mc0_1 Mc1_1 Mc2_1 Mc3_1 Gc0_2 Gc1_2 Gc2_2 Gc3_2 Gc4_2 Gc5_2 Gc6_2 EM; have B0 := BB
      go_cut [7, 8] from 12 to 31 (fun s7 s8 wc => ∃ (amz atz : Option Addr) (cmz ctz : Nat) (bxN : Nat), s7 = .pointer (some ⟨bxN, 0, none⟩) ∧ s8 = .int .i64 uid ∧ OwnBx wdr1.heap.size wc (.slice amz z.mails.length cmz) (.slice atz z.tombs.length ctz) z ∧ HasObj wc bxN 39 [.string z.name, .int .i64 z.valid, .int .i64 z.next, .int .i64 z.mod, .slice amz z.mails.length cmz, .slice atz z.tombs.length ctz, .int .i64 z.hor] ∧ wdr1.heap.size ≤ bxN ∧ Below wdr1.heap.size wdr1 wc)
      case first =>
        clear BB; have BB := hide (Below.refl wdr1.heap.size wdr1)
        refine wp_region_held_drew (S := fun w' => w'.cell? ⟨g, 0, none⟩ = some (.string xb.name) ∧ w'.cell? ⟨g, 1, none⟩ = some (.int .i64 xb.valid) ∧ w'.cell? ⟨g, 2, none⟩ = some (.int .i64 xb.next) ∧ w'.cell? ⟨g, 3, none⟩ = some (.int .i64 xb.mod) ∧ w'.cell? ⟨g, 4, none⟩ = some (.slice amx xb.mails.length cmx) ∧ w'.cell? ⟨g, 5, none⟩ = some (.slice atx xb.tombs.length ctx) ∧ w'.cell? ⟨g, 6, none⟩ = some (.int .i64 xb.hor) ∧ w'.cell? ⟨wo.heap.size, 0, none⟩ = some (.int .i64 f.uid) ∧ w'.cell? ⟨wo.heap.size, 1, none⟩ = some (.int .i64 f.flags) ∧ w'.cell? ⟨wo.heap.size, 2, none⟩ = some (.int .i64 f.mod) ∧ w'.cell? ⟨wo.heap.size, 3, none⟩ = some (.string f.text)) (by kernel_rfl) (⟨(unhide G).cell 0 rfl, (unhide G).cell 1 rfl, (unhide G).cell 2 rfl, (unhide G).cell 3 rfl, (unhide G).cell 4 rfl, (unhide G).cell 5 rfl, (unhide G).cell 6 rfl, (unhide M).cell 0 rfl, (unhide M).cell 1 rfl, (unhide M).cell 2 rfl, (unhide M).cell 3 rfl⟩) (fun hHeld => ?_)
        replace G := hide ((unhide G).drew); replace M := hide ((unhide M).drew); replace OX := hide ((unhide OX).drew); replace OM := hide ((unhide OM).drew); replace BB := hide ((unhide BB).drew)
        have sz102 : Hid (wdr1.heap.size ≤ wdr1.drew.heap.size) := Nat.le_refl _
        refine takeVal 0 (some 16) ?_ rfl (by kernel_rfl) (by kernel_rfl) (by kernel_rfl) rfl (fun _ _ _ h => h) (by rfl) (by assumption) ?_ ?_; rotate_left; (intro w hSw; (try dsimp only at hSw); go_simp <;> with_reducible rfl); simp only [Act.put, List.setIfInBounds_toArray, List.set_cons_zero, List.set_cons_succ]
        refine takeVal 1 (some 17) ?_ rfl (by kernel_rfl) (by kernel_rfl) (by kernel_rfl) rfl (fun _ _ _ h => h) (by rfl) (by assumption) ?_ ?_; rotate_left; (intro w hSw; (try dsimp only at hSw); go_simp <;> with_reducible rfl); simp only [Act.put, List.setIfInBounds_toArray, List.set_cons_zero, List.set_cons_succ]
        refine takeVal 2 (some 18) ?_ rfl (by kernel_rfl) (by kernel_rfl) (by kernel_rfl) rfl (fun _ _ _ h => h) (by rfl) (by assumption) ?_ ?_; rotate_left; (intro w hSw; (try dsimp only at hSw); go_simp <;> with_reducible rfl); simp only [Act.put, List.setIfInBounds_toArray, List.set_cons_zero, List.set_cons_succ]
        refine takeVal 3 (some 19) ?_ rfl (by kernel_rfl) (by kernel_rfl) (by kernel_rfl) rfl (fun _ _ _ h => h) (by rfl) (by assumption) ?_ ?_; rotate_left; (intro w hSw; (try dsimp only at hSw); go_simp <;> with_reducible rfl); simp only [Act.put, List.setIfInBounds_toArray, List.set_cons_zero, List.set_cons_succ]
        refine takeVal 4 (some 20) ?_ rfl (by kernel_rfl) (by kernel_rfl) (by kernel_rfl) rfl (fun _ _ _ h => h) (by rfl) (by assumption) ?_ ?_; rotate_left; (intro w hSw; (try dsimp only at hSw); go_simp <;> with_reducible rfl); simp only [Act.put, List.setIfInBounds_toArray, List.set_cons_zero, List.set_cons_succ]
        refine takeVal 5 (some 21) ?_ rfl (by kernel_rfl) (by kernel_rfl) (by kernel_rfl) rfl (fun _ _ _ h => h) (by rfl) (by assumption) ?_ ?_; rotate_left; (intro w hSw; (try dsimp only at hSw); go_simp <;> with_reducible rfl); simp only [Act.put, List.setIfInBounds_toArray, List.set_cons_zero, List.set_cons_succ]
        refine takeVal 6 (some 22) ?_ rfl (by kernel_rfl) (by kernel_rfl) (by kernel_rfl) rfl (fun _ _ _ h => h) (by rfl) (by assumption) ?_ ?_; rotate_left; (intro w hSw; (try dsimp only at hSw); go_simp <;> with_reducible rfl); simp only [Act.put, List.setIfInBounds_toArray, List.set_cons_zero, List.set_cons_succ]
        refine wpAnyH_ready (rs := [7, 11]) (by kernel_rfl) (by simp) ?_
        refine (AllReadyH.cons rfl (fun K hK => ?_) (AllReadyH.cons rfl (fun K hK => ?_) AllReadyH.nil))
        · skip
          go_simp
          refine (impl_AddMail_any xb _ _ _ f.flags f.text _ (unhide FX) (by omega) htx (unhide OX)).mono ?_
          rintro e wdre2 ⟨mN, tN, rfl, oN, hb⟩
          rw [← unhide HZ] at oN ⊢
          simp only at oN ⊢
          obtain ⟨amN, cmN, rfl⟩ := g_shape oN.1
          obtain ⟨atN, ctN, rfl⟩ := g_shape oN.2
          have ON_ : Hid (OwnBx wdr1.heap.size _ _ _ z) := oN.based (unhide BB).size
          clear oN; replace G := hide ((unhide G).ups hb); replace M := hide ((unhide M).ups hb); replace OX := hide ((unhide OX).up hb); replace OM := hide ((unhide OM).up hb); have sz103 := hide (hb.size); replace BB := hide (below_y (unhide BB) hb); clear hb; have ON := ON_; clear ON_; go_wp2_with fail
          refine hK.out _ _ (⟨(unhide G).cell 0 rfl, (unhide G).cell 1 rfl, (unhide G).cell 2 rfl, (unhide G).cell 3 rfl, (unhide G).cell 4 rfl, (unhide G).cell 5 rfl, (unhide G).cell 6 rfl, (unhide M).cell 0 rfl, (unhide M).cell 1 rfl, (unhide M).cell 2 rfl, (unhide M).cell 3 rfl⟩) (fun hHeld2 => ?_)
          clear hK K hHeld; have hHeld := hHeld2; clear hHeld2
          try simp only [Act.put, List.setIfInBounds_toArray, List.set_cons_zero, List.set_cons_succ]
          refine takeVal 8 (some 15) ?_ rfl (by kernel_rfl) (by kernel_rfl) (by kernel_rfl) rfl (fun _ _ _ h => h) (by rfl) (by assumption) ?_ ?_; rotate_left; (intro w hSw; (try dsimp only at hSw); go_simp <;> with_reducible rfl); simp only [Act.put, List.setIfInBounds_toArray, List.set_cons_zero, List.set_cons_succ]
          refine takeVal 9 (some 24) ?_ rfl (by kernel_rfl) (by kernel_rfl) (by kernel_rfl) rfl (fun _ _ _ h => h) (by rfl) (by assumption) ?_ ?_; rotate_left; (intro w hSw; (try dsimp only at hSw); go_simp <;> with_reducible rfl); simp only [Act.put, List.setIfInBounds_toArray, List.set_cons_zero, List.set_cons_succ]
          refine takeVal 10 (some 25) ?_ rfl (by kernel_rfl) (by kernel_rfl) (by kernel_rfl) rfl (fun _ _ _ h => h) (by rfl) (by assumption) ?_ ?_; rotate_left; (intro w hSw; (try dsimp only at hSw); go_simp <;> with_reducible rfl); simp only [Act.put, List.setIfInBounds_toArray, List.set_cons_zero, List.set_cons_succ]
          refine wpAnyH_ready (rs := [11]) (by kernel_rfl) (by simp) ?_
          refine (AllReadyH.cons rfl (fun K hK => ?_) AllReadyH.nil)
          go_simp
          obtain ⟨wdre3, hX⟩ : ∃ X, X = (wdre2.alloc (.cells ([.string ⟨#[]⟩, .int .i64 0, .int .i64 0, .int .i64 0, .slice none 0 0, .slice none 0 0, .int .i64 0] : List Value).toArray 39)) := ⟨_, rfl⟩
          rw [← hX]
          have Nx : HasObj wdre3 wdre2.heap.size 39 [.string ⟨#[]⟩, .int .i64 0, .int .i64 0, .int .i64 0, .slice none 0 0, .slice none 0 0, .int .i64 0] := by rw [hX]; exact HasObj.new _ _ _
          have hbn : Below wdre2.heap.size wdre2 wdre3 := by rw [hX]; exact (Below.refl wdre2.heap.size wdre2).alloc (Nat.le_refl _) _
          clear hX
          have neGN : g ≠ wdre2.heap.size := Nat.ne_of_lt (unhide G).lt
          have neMN : wo.heap.size ≠ wdre2.heap.size := Nat.ne_of_lt (unhide M).lt
          have loN : wdr1.heap.size ≤ wdre2.heap.size := (unhide BB).size
          replace G := hide ((unhide G).ups hbn); replace M := hide ((unhide M).ups hbn); replace OX := hide ((unhide OX).up hbn); replace OM := hide ((unhide OM).up hbn); replace ON := hide ((unhide ON).up hbn); have sz104 := hide (hbn.size); replace BB := hide (below_y (unhide BB) hbn); clear hbn; have N := hide Nx; clear Nx
          refine hK.out _ _ (⟨(unhide G).cell 0 rfl, (unhide G).cell 1 rfl, (unhide G).cell 2 rfl, (unhide G).cell 3 rfl, (unhide G).cell 4 rfl, (unhide G).cell 5 rfl, (unhide G).cell 6 rfl, (unhide M).cell 0 rfl, (unhide M).cell 1 rfl, (unhide M).cell 2 rfl, (unhide M).cell 3 rfl⟩) (fun hHeld2 => ?_)
          clear hK K hHeld; have hHeld := hHeld2; clear hHeld2
          try simp only [Act.put, List.setIfInBounds_toArray, List.set_cons_zero, List.set_cons_succ]
          have Nf0 := (unhide N).frozen 0; have Nf1 := (unhide N).frozen 1; have Nf2 := (unhide N).frozen 2; have Nf3 := (unhide N).frozen 3; have Nf4 := (unhide N).frozen 4; have Nf5 := (unhide N).frozen 5; have Nf6 := (unhide N).frozen 6; have Ne0 := (unhide N).cell 0 rfl; have Ne1 := (unhide N).cell 1 rfl; have Ne2 := (unhide N).cell 2 rfl; have Ne3 := (unhide N).cell 3 rfl; have Ne4 := (unhide N).cell 4 rfl; have Ne5 := (unhide N).cell 5 rfl; have Ne6 := (unhide N).cell 6 rfl; have F_ := hide (fill7 (unhide N) (.string z.name) (.int .i64 z.valid) (.int .i64 z.next) (.int .i64 z.mod) (.slice amN z.mails.length cmN) (.slice atN z.tombs.length ctN) (.int .i64 z.hor))
          refine wpAnyH_ready (rs := [12]) (by kernel_rfl) (by simp) ?_
          refine AllReadyH.cons rfl (fun K hK => ?_) AllReadyH.nil
          go_simp
          obtain ⟨wdre4, hU⟩ : ∃ U, U = (((((((wdre3.setCell ⟨wdre2.heap.size, 0, none⟩ (.string z.name)).setCell ⟨wdre2.heap.size, 1, none⟩ (.int .i64 z.valid)).setCell ⟨wdre2.heap.size, 2, none⟩ (.int .i64 z.next)).setCell ⟨wdre2.heap.size, 3, none⟩ (.int .i64 z.mod)).setCell ⟨wdre2.heap.size, 4, none⟩ (.slice amN z.mails.length cmN)).setCell ⟨wdre2.heap.size, 5, none⟩ (.slice atN z.tombs.length ctN)).setCell ⟨wdre2.heap.size, 6, none⟩ (.int .i64 z.hor)) := ⟨_, rfl⟩
          have F := unhide F_
          rw [← hU] at F ⊢
          clear hU F_; clear Nf0 Nf1 Nf2 Nf3 Nf4 Nf5 Nf6 Ne0 Ne1 Ne2 Ne3 Ne4 Ne5 Ne6; have G_ := hide (F.other neGN (unhide G)); have M_ := hide (F.other neMN (unhide M)); have N_ := hide (F.obj)
          have OX_ : Hid (OwnBx B wdre4 (.slice amx xb.mails.length cmx) (.slice atx xb.tombs.length ctx) xb) := ⟨F.row (by decide) (unhide OX).1, F.row (by decide) (unhide OX).2⟩
          have OM_ : Hid (OwnMl B2 wdre4 (.slice (some ⟨gb, 0, none⟩) n cv) (ms)) := F.row (by decide) (unhide OM)
          have ON_ : Hid (OwnBx wdr1.heap.size wdre4 (.slice amN z.mails.length cmN) (.slice atN z.tombs.length ctN) z) := ⟨F.row (by decide) (unhide ON).1, F.row (by decide) (unhide ON).2⟩
          have BB_ : Hid (Below wdr1.heap.size wdr1 wdre4) := F.below loN (unhide BB)
          have sz105 : Hid (wdre3.heap.size ≤ wdre4.heap.size) := by show _ ≤ _; rw [F.size]; exact Nat.le_refl _
          replace G := G_; clear G_; replace M := M_; clear M_; replace N := N_; clear N_; replace OX := OX_; clear OX_; replace OM := OM_; clear OM_; replace ON := ON_; clear ON_; replace BB := BB_; clear BB_; clear F
          refine hK.out _ _ (⟨(unhide G).cell 0 rfl, (unhide G).cell 1 rfl, (unhide G).cell 2 rfl, (unhide G).cell 3 rfl, (unhide G).cell 4 rfl, (unhide G).cell 5 rfl, (unhide G).cell 6 rfl, (unhide M).cell 0 rfl, (unhide M).cell 1 rfl, (unhide M).cell 2 rfl, (unhide M).cell 3 rfl⟩) (fun hHeld2 => ?_)
          clear hK K hHeld; have hHeld := hHeld2; clear hHeld2
          try simp only [Act.put, List.setIfInBounds_toArray, List.set_cons_zero, List.set_cons_succ]
          refine takeVal 13 (some 8) ?_ rfl (by kernel_rfl) (by kernel_rfl) (by kernel_rfl) rfl (fun _ _ _ h => h) (by rfl) (by assumption) ?_ ?_; rotate_left; (intro w hSw; (try dsimp only at hSw); go_simp <;> with_reducible rfl); simp only [Act.put, List.setIfInBounds_toArray, List.set_cons_zero, List.set_cons_succ]
          refine wpAnyH_done (by kernel_rfl) ?_ _
          go_wp2
          go_meet
          case rel => exact ⟨_, _, _, _, _, rfl, rfl, unhide ON, unhide N, loN, unhide BB⟩
        · skip
          go_simp
          obtain ⟨wdre2, hX⟩ : ∃ X, X = (wdr1.alloc (.cells ([.string ⟨#[]⟩, .int .i64 0, .int .i64 0, .int .i64 0, .slice none 0 0, .slice none 0 0, .int .i64 0] : List Value).toArray 39)).drew := ⟨_, rfl⟩
          rw [← hX]
          have Nx : HasObj wdre2 wdr1.heap.size 39 [.string ⟨#[]⟩, .int .i64 0, .int .i64 0, .int .i64 0, .slice none 0 0, .slice none 0 0, .int .i64 0] := by rw [hX]; exact (HasObj.new _ _ _).drew
          have hbn : Below wdr1.drew.heap.size wdr1.drew wdre2 := by rw [hX]; exact (Below.refl wdr1.drew.heap.size wdr1.drew).alloc (Nat.le_refl _) _
          clear hX
          have neGN : g ≠ wdr1.heap.size := Nat.ne_of_lt (unhide G).lt
          have neMN : wo.heap.size ≠ wdr1.heap.size := Nat.ne_of_lt (unhide M).lt
          have loN : wdr1.heap.size ≤ wdr1.heap.size := (unhide BB).size
          replace G := hide ((unhide G).ups hbn); replace M := hide ((unhide M).ups hbn); replace OX := hide ((unhide OX).up hbn); replace OM := hide ((unhide OM).up hbn); have sz103 := hide (hbn.size); replace BB := hide (below_y (unhide BB) hbn); clear hbn; have N := hide Nx; clear Nx
          refine hK.out _ _ (⟨(unhide G).cell 0 rfl, (unhide G).cell 1 rfl, (unhide G).cell 2 rfl, (unhide G).cell 3 rfl, (unhide G).cell 4 rfl, (unhide G).cell 5 rfl, (unhide G).cell 6 rfl, (unhide M).cell 0 rfl, (unhide M).cell 1 rfl, (unhide M).cell 2 rfl, (unhide M).cell 3 rfl⟩) (fun hHeld2 => ?_)
          clear hK K hHeld; have hHeld := hHeld2; clear hHeld2
          try simp only [Act.put, List.setIfInBounds_toArray, List.set_cons_zero, List.set_cons_succ]
          refine wpAnyH_ready (rs := [7]) (by kernel_rfl) (by simp) ?_
          refine (AllReadyH.cons rfl (fun K hK => ?_) AllReadyH.nil)
          go_simp
          refine (impl_AddMail_any xb _ _ _ f.flags f.text _ (unhide FX) (by omega) htx (unhide OX)).mono ?_
          rintro e wdre3 ⟨mN, tN, rfl, oN, hb⟩
          rw [← unhide HZ] at oN ⊢
          simp only at oN ⊢
          obtain ⟨amN, cmN, rfl⟩ := g_shape oN.1
          obtain ⟨atN, ctN, rfl⟩ := g_shape oN.2
          have ON_ : Hid (OwnBx wdr1.heap.size _ _ _ z) := oN.based (unhide BB).size
          clear oN; replace G := hide ((unhide G).ups hb); replace M := hide ((unhide M).ups hb); replace N := hide ((unhide N).ups hb); replace OX := hide ((unhide OX).up hb); replace OM := hide ((unhide OM).up hb); have sz104 := hide (hb.size); replace BB := hide (below_y (unhide BB) hb); clear hb; have ON := ON_; clear ON_; go_wp2_with fail
          refine hK.out _ _ (⟨(unhide G).cell 0 rfl, (unhide G).cell 1 rfl, (unhide G).cell 2 rfl, (unhide G).cell 3 rfl, (unhide G).cell 4 rfl, (unhide G).cell 5 rfl, (unhide G).cell 6 rfl, (unhide M).cell 0 rfl, (unhide M).cell 1 rfl, (unhide M).cell 2 rfl, (unhide M).cell 3 rfl⟩) (fun hHeld2 => ?_)
          clear hK K hHeld; have hHeld := hHeld2; clear hHeld2
          try simp only [Act.put, List.setIfInBounds_toArray, List.set_cons_zero, List.set_cons_succ]
          refine takeVal 8 (some 15) ?_ rfl (by kernel_rfl) (by kernel_rfl) (by kernel_rfl) rfl (fun _ _ _ h => h) (by rfl) (by assumption) ?_ ?_; rotate_left; (intro w hSw; (try dsimp only at hSw); go_simp <;> with_reducible rfl); simp only [Act.put, List.setIfInBounds_toArray, List.set_cons_zero, List.set_cons_succ]
          refine takeVal 9 (some 24) ?_ rfl (by kernel_rfl) (by kernel_rfl) (by kernel_rfl) rfl (fun _ _ _ h => h) (by rfl) (by assumption) ?_ ?_; rotate_left; (intro w hSw; (try dsimp only at hSw); go_simp <;> with_reducible rfl); simp only [Act.put, List.setIfInBounds_toArray, List.set_cons_zero, List.set_cons_succ]
          refine takeVal 10 (some 25) ?_ rfl (by kernel_rfl) (by kernel_rfl) (by kernel_rfl) rfl (fun _ _ _ h => h) (by rfl) (by assumption) ?_ ?_; rotate_left; (intro w hSw; (try dsimp only at hSw); go_simp <;> with_reducible rfl); simp only [Act.put, List.setIfInBounds_toArray, List.set_cons_zero, List.set_cons_succ]
          have Nf0 := (unhide N).frozen 0; have Nf1 := (unhide N).frozen 1; have Nf2 := (unhide N).frozen 2; have Nf3 := (unhide N).frozen 3; have Nf4 := (unhide N).frozen 4; have Nf5 := (unhide N).frozen 5; have Nf6 := (unhide N).frozen 6; have Ne0 := (unhide N).cell 0 rfl; have Ne1 := (unhide N).cell 1 rfl; have Ne2 := (unhide N).cell 2 rfl; have Ne3 := (unhide N).cell 3 rfl; have Ne4 := (unhide N).cell 4 rfl; have Ne5 := (unhide N).cell 5 rfl; have Ne6 := (unhide N).cell 6 rfl; have F_ := hide (fill7 (unhide N) (.string z.name) (.int .i64 z.valid) (.int .i64 z.next) (.int .i64 z.mod) (.slice amN z.mails.length cmN) (.slice atN z.tombs.length ctN) (.int .i64 z.hor))
          refine wpAnyH_ready (rs := [12]) (by kernel_rfl) (by simp) ?_
          refine AllReadyH.cons rfl (fun K hK => ?_) AllReadyH.nil
          go_simp
          obtain ⟨wdre4, hU⟩ : ∃ U, U = (((((((wdre3.setCell ⟨wdr1.heap.size, 0, none⟩ (.string z.name)).setCell ⟨wdr1.heap.size, 1, none⟩ (.int .i64 z.valid)).setCell ⟨wdr1.heap.size, 2, none⟩ (.int .i64 z.next)).setCell ⟨wdr1.heap.size, 3, none⟩ (.int .i64 z.mod)).setCell ⟨wdr1.heap.size, 4, none⟩ (.slice amN z.mails.length cmN)).setCell ⟨wdr1.heap.size, 5, none⟩ (.slice atN z.tombs.length ctN)).setCell ⟨wdr1.heap.size, 6, none⟩ (.int .i64 z.hor)) := ⟨_, rfl⟩
          have F := unhide F_
          rw [← hU] at F ⊢
          clear hU F_; clear Nf0 Nf1 Nf2 Nf3 Nf4 Nf5 Nf6 Ne0 Ne1 Ne2 Ne3 Ne4 Ne5 Ne6; have G_ := hide (F.other neGN (unhide G)); have M_ := hide (F.other neMN (unhide M)); have N_ := hide (F.obj)
          have OX_ : Hid (OwnBx B wdre4 (.slice amx xb.mails.length cmx) (.slice atx xb.tombs.length ctx) xb) := ⟨F.row (by decide) (unhide OX).1, F.row (by decide) (unhide OX).2⟩
          have OM_ : Hid (OwnMl B2 wdre4 (.slice (some ⟨gb, 0, none⟩) n cv) (ms)) := F.row (by decide) (unhide OM)
          have ON_ : Hid (OwnBx wdr1.heap.size wdre4 (.slice amN z.mails.length cmN) (.slice atN z.tombs.length ctN) z) := ⟨F.row (by decide) (unhide ON).1, F.row (by decide) (unhide ON).2⟩
          have BB_ : Hid (Below wdr1.heap.size wdr1 wdre4) := F.below loN (unhide BB)
          have sz105 : Hid (wdre3.heap.size ≤ wdre4.heap.size) := by show _ ≤ _; rw [F.size]; exact Nat.le_refl _
          replace G := G_; clear G_; replace M := M_; clear M_; replace N := N_; clear N_; replace OX := OX_; clear OX_; replace OM := OM_; clear OM_; replace ON := ON_; clear ON_; replace BB := BB_; clear BB_; clear F
          refine hK.out _ _ (⟨(unhide G).cell 0 rfl, (unhide G).cell 1 rfl, (unhide G).cell 2 rfl, (unhide G).cell 3 rfl, (unhide G).cell 4 rfl, (unhide G).cell 5 rfl, (unhide G).cell 6 rfl, (unhide M).cell 0 rfl, (unhide M).cell 1 rfl, (unhide M).cell 2 rfl, (unhide M).cell 3 rfl⟩) (fun hHeld2 => ?_)
          clear hK K hHeld; have hHeld := hHeld2; clear hHeld2
          try simp only [Act.put, List.setIfInBounds_toArray, List.set_cons_zero, List.set_cons_succ]
          refine takeVal 13 (some 8) ?_ rfl (by kernel_rfl) (by kernel_rfl) (by kernel_rfl) rfl (fun _ _ _ h => h) (by rfl) (by assumption) ?_ ?_; rotate_left; (intro w hSw; (try dsimp only at hSw); go_simp <;> with_reducible rfl); simp only [Act.put, List.setIfInBounds_toArray, List.set_cons_zero, List.set_cons_succ]
          refine wpAnyH_done (by kernel_rfl) ?_ _
          go_wp2
          go_meet
          case rel => exact ⟨_, _, _, _, _, rfl, rfl, unhide ON, unhide N, loN, unhide BB⟩
      case rest =>
        obtain ⟨amN, atN, cmN, ctN, bxN, rfl, rfl, oN, obN, hloN, hb⟩ := hcut
        obtain ⟨wdr2, rfl⟩ : ∃ x, x = wc := ⟨_, rfl⟩
        have neGN : g ≠ bxN := Nat.ne_of_lt (Nat.lt_of_lt_of_le (unhide G).lt hloN)
        have neMN : wo.heap.size ≠ bxN := Nat.ne_of_lt (Nat.lt_of_lt_of_le (unhide M).lt hloN)
        have loN : w.heap.size ≤ bxN := Nat.le_trans (unhide BB).size hloN
        clear B0; replace G := hide ((unhide G).ups hb); replace M := hide ((unhide M).ups hb); replace OX := hide ((unhide OX).up hb); replace OM := hide ((unhide OM).up hb); have sz102 := hide (hb.size); replace BB := hide (g_then (unhide BB) hb); clear hb; have N := hide obN; clear obN; have NN := hide (OwnBx.base oN); have ON := hide oN; clear oN
        have EU2 : Hid (uid = (addV xb f.flags f.text).2) := congrArg Prod.snd (unhide HZ)
        have EZ2 : Hid (z = (addV xb f.flags f.text).1) := congrArg Prod.fst (unhide HZ)
        have hszW : Hid (w.heap.size ≤ wdr1.heap.size) := by show _ ≤ _; have sz101_ := unhide sz101; have sz102_ := unhide sz102; omega
        by_cases hu : uid = 0
        · have d0 : (uid == 0) = true := beq_iff_eq.2 hu
          have NO : Hid (addAll b ms = none) := by show _ = _; rw [unhide HALL, unhide DK]; exact addAll_no (by rw [← unhide EU2]; exact hu)
          clear hu
          go_wp2
          go_ret
          exact ⟨by rw [unhide NO]; rfl, fun b9 h9 => (by rw [unhide NO] at h9; cases h9), unhide BB⟩
        · have d0 : (uid == 0) = false := beq_eq_false_iff_ne.2 hu
          have YES : Hid (addAll b ms = addAll z (ms.drop (k + 1))) := by show _ = _; rw [unhide HALL, unhide DK, addAll_yes (by rw [← unhide EU2]; exact hu), ← unhide EZ2]
          have ZOK : Hid (boxOk z = true) := by show _ = _; rw [unhide EZ2]; exact addV_ok (by rw [← unhide EU2]; exact hu)
          clear hu; have Nc0_3 := (unhide N).cell 0 rfl; have Nc1_3 := (unhide N).cell 1 rfl; have Nc2_3 := (unhide N).cell 2 rfl; have Nc3_3 := (unhide N).cell 3 rfl; have Nc4_3 := (unhide N).cell 4 rfl; have Nc5_3 := (unhide N).cell 5 rfl; have Nc6_3 := (unhide N).cell 6 rfl; have Gf0 := (unhide G).frozen 0; have Gf1 := (unhide G).frozen 1; have Gf2 := (unhide G).frozen 2; have Gf3 := (unhide G).frozen 3; have Gf4 := (unhide G).frozen 4; have Gf5 := (unhide G).frozen 5; have Gf6 := (unhide G).frozen 6; have Ge0 := (unhide G).cell 0 rfl; have Ge1 := (unhide G).cell 1 rfl; have Ge2 := (unhide G).cell 2 rfl; have Ge3 := (unhide G).cell 3 rfl; have Ge4 := (unhide G).cell 4 rfl; have Ge5 := (unhide G).cell 5 rfl; have Ge6 := (unhide G).cell 6 rfl; have F_ := fill7 (unhide G) (.string z.name) (.int .i64 z.valid) (.int .i64 z.next) (.int .i64 z.mod) (.slice amN z.mails.length cmN) (.slice atN z.tombs.length ctN) (.int .i64 z.hor); have FG := @fill_grown wdr2 g (.string z.name) (.int .i64 z.valid) (.int .i64 z.next) (.int .i64 z.mod) (.slice amN z.mails.length cmN) (.slice atN z.tombs.length ctN) (.int .i64 z.hor)
          obtain ⟨wdy3, hU⟩ : ∃ X, X = (((((((wdr2.setCell ⟨g, 0, none⟩ (.string z.name)).setCell ⟨g, 1, none⟩ (.int .i64 z.valid)).setCell ⟨g, 2, none⟩ (.int .i64 z.next)).setCell ⟨g, 3, none⟩ (.int .i64 z.mod)).setCell ⟨g, 4, none⟩ (.slice amN z.mails.length cmN)).setCell ⟨g, 5, none⟩ (.slice atN z.tombs.length ctN)).setCell ⟨g, 6, none⟩ (.int .i64 z.hor)) := ⟨_, rfl⟩
          rw [← hU] at F_ FG
          have EU := hU.symm; clear hU; have G_ := hide F_.obj
          have OM_ : Hid (OwnMl B2 wdy3 (.slice (some ⟨gb, 0, none⟩) n cv) ms) := F_.row (by decide) (unhide OM)
          have ON_ : Hid (OwnBx wdr1.heap.size wdy3 (.slice amN z.mails.length cmN) (.slice atN z.tombs.length ctN) z) := ⟨F_.row (by decide) (unhide ON).1, F_.row (by decide) (unhide ON).2⟩
          have BB_ := hide (g_join (unhide BB) FG); have OZ9 := hide ((unhide ON_).based (show B ≤ wdr1.heap.size from Nat.le_trans hB (unhide hszW))); clear F_ FG G OM ON BB OX M N; have G := G_; have OM := OM_; have BB := BB_; clear G_ OM_ ON_ BB_
          go_wp2
          clear EU
          go_roundw
          case rel => rw [unhide HREL]; exact ⟨k + 1, ⟨z, .slice amN z.mails.length cmN, .slice atN z.tombs.length ctN⟩, by omega, by go_num, unhide ZOK, unhide YES, unhide G, unhide OZ9, fun q hq => .inr (Nat.le_trans (unhide hszW) (unhide NN q (.inl hq)).1), fun q hq => .inr (Nat.le_trans (unhide hszW) (unhide NN q (.inr hq)).1), unhide OM, unhide BB⟩
          case measure => simp [intOf]; omega
    · obtain rfl : k = n := by omega
      have hd : ms.drop k = [] := List.drop_of_length_le (by have := unhide HN; omega)
      rw [hd] at hall
      have ALL : Hid (addAll b ms = some x.b) := hall
      have G := hide oG; have OX := hide oX; have A1 := hide am1; have A2 := hide at1_; have BB := hide hgr; have XK := hide hxk; clear oG oX am1 at1_ hgr oM hall hd hxk
      go_wp2
      go_ret
      exact ⟨by rw [unhide ALL]; rfl, fun b9 h9 => by rw [unhide ALL] at h9; cases h9; exact ⟨_, _, unhide XK, unhide G, unhide OX, unhide A1, unhide A2⟩, unhide BB⟩
end Go.Proofs.Ytfemplekibpfoac

/- The program's CopyMails. Made by gen_stores.py. -/
namespace Go.Proofs.Ytfemplekibpfoac
open Go.RowKit
open Plain
set_option linter.unusedVariables false
set_option linter.unusedSimpArgs false

theorem aside_set2 {P : List (Lb × Nat)} (hap : P.Pairwise AsideB) {k g : Nat} {x y : Lb} (hk : P[k]? = some (x, g)) (hn : ∀ i p, i ≠ k → P[i]? = some p → ApartB p.1 y) : (P.set k (y, g)).Pairwise AsideB := by
  rw [List.pairwise_iff_getElem]
  intro i j hi hj hij
  rw [List.length_set] at hi hj
  have hi' := List.getElem?_eq_getElem hi
  have hj' := List.getElem?_eq_getElem hj
  rw [List.getElem_set, List.getElem_set]
  by_cases h1 : k = i
  · rw [if_pos h1, if_neg (by omega)]
    subst h1
    exact ⟨(aside_at hap hj' hk (by omega)).1.symm, (hn _ _ (by omega) hj').symm⟩
  · rw [if_neg h1]
    by_cases h2 : k = j
    · rw [if_pos h2]
      subst h2
      exact ⟨(aside_at hap hi' hk (by omega)).1, hn _ _ (by omega) hi'⟩
    · rw [if_neg h2]
      exact List.pairwise_iff_getElem.1 hap i j hi hj hij
theorem ObjsB.grew {B : Nat} {W W' : World} {P : List (Lb × Nat)} {k g : Nat} {x y : Lb} (h : ObjsB B W P) (hap : P.Pairwise AsideB) (hk : P[k]? = some (x, g)) (hg : W.grownBy W' (some g)) (hn : HasObj W' g 39 (lbC y)) (hy : OwnBx B W' y.m y.t y.b) : ObjsB B W' (P.set k (y, g)) := by
  have hx := h _ (List.mem_of_getElem? hk)
  intro p hp
  rcases set_cases hp with rfl | ⟨i, hne, hi⟩
  · exact ⟨hx.1, hn, hy⟩
  · have hm := h p (List.mem_of_getElem? hi)
    refine ⟨hm.1, hm.2.1.kept hg (fun e => (aside_at hap hi hk hne).1 (Option.some.inj e)), ⟨g_aside hm.2.2.1 hg (fun q hq e => ?_), g_aside hm.2.2.2 hg (fun q hq e => ?_)⟩⟩
    · cases hq; exact hx.2.1.not_row (by decide) hm.2.2.1 e
    · cases hq; exact hx.2.1.not_row (by decide) hm.2.2.2 e
set_option maxHeartbeats 16000000 in
set_option maxRecDepth 100000 in
theorem impl_CopyMails_any (s : Sx) (src dst : ByteArray) (set : List Rg) (v vs : Value) (B B2 : Nat) (w : World) (hf : FitSt s) (hz1 : src.size ≤ 1048576) (hz2 : dst.size ≤ 1048576) (hs : set.length ≤ 1048576) (h : ReadSt B w v s.boxes) (h2 : OwnR B2 w vs set) :
    Calls Try.prog 26 #[.agg #[v, .int .i64 s.valid], .string src, vs, .string dst] w fun e w' => ∃ v', e = .returned (.tuple #[.agg #[v', .int .i64 (copyV s src set dst).1.valid], .int .i64 (copyV s src set dst).2]) ∧ OwnSt w.heap.size w' v' (copyV s src set dst).1.boxes ∧ Below w.heap.size w w' := by
  have FT := hide hf
  obtain ⟨L, hL, h⟩ := h
  obtain ⟨a1, c1, rfl⟩ := g_shape h.row
  obtain ⟨n, hn⟩ : ∃ n, n = s.boxes.length := ⟨_, rfl⟩
  have hn1 : L.length = n := by rw [hn, ← hL, List.length_map]
  have hnl := hf.len
  rw [← hn] at hnl
  have S1 := hide h
  rw [hn1] at S1 ⊢
  have FE := hide hf.each; have HL := hide hL; have HN := hide hn; have HN1 := hide hn1; clear h hL hn hn1 hf
  have NS : Hid (∀ q, BlkBs (.slice a1 n c1) L q → q < w.heap.size) := fun q hq => ((unhide S1).base q hq).2
  have RS := hide h2; have FLD := field_named; clear h2; have BB := hide (Below.refl w.heap.size w)
  obtain ⟨wc1, hA⟩ : ∃ X, X = w.alloc (.cells ([.slice a1 n c1, .int .i64 s.valid] : List Value).toArray 33) := ⟨_, rfl⟩
  have Ax : HasObj wc1 w.heap.size 33 [.slice a1 n c1, .int .i64 s.valid] := by rw [hA]; exact HasObj.new _ _ _
  have hbn : Below w.heap.size w wc1 := by rw [hA]; exact (Below.refl _ _).alloc (Nat.le_refl _) _
  have loA : w.heap.size ≤ w.heap.size := (unhide BB).size
  have EA := hA.symm; clear hA; replace S1 := hide ((unhide S1).up hbn); replace RS := hide ((unhide RS).up hbn); have sz1 := hide (hbn.size); replace BB := hide (below_y (unhide BB) hbn); clear hbn; have A := hide Ax; clear Ax
  obtain ⟨wc2, hR⟩ : ∃ X, X = wc1.alloc (.cells ([.slice none 0 0, .int .i64 0] : List Value).toArray 33) := ⟨_, rfl⟩
  have Rx : HasObj wc2 wc1.heap.size 33 [.slice none 0 0, .int .i64 0] := by rw [hR]; exact HasObj.new _ _ _
  have hbn : Below wc1.heap.size wc1 wc2 := by rw [hR]; exact (Below.refl _ _).alloc (Nat.le_refl _) _
  have neAR : w.heap.size ≠ wc1.heap.size := Nat.ne_of_lt (unhide A).lt
  have loR : w.heap.size ≤ wc1.heap.size := (unhide BB).size
  have ER := hR.symm; clear hR; replace A := hide ((unhide A).ups hbn); replace S1 := hide ((unhide S1).up hbn); replace RS := hide ((unhide RS).up hbn); have sz2 := hide (hbn.size); replace BB := hide (below_y (unhide BB) hbn); clear hbn; have R := hide Rx; clear Rx; have Ac0_1 := (unhide A).cell 0 rfl; have Ac1_1 := (unhide A).cell 1 rfl
  go_enter Try.func26, Try.ntmps26
  go_wp2_with fail; clear Ac0_1 Ac1_1 EA ER
  refine (impl_StoreOk_any s _ _ _ (unhide FT) ⟨L, unhide HL, unhide S1⟩).mono ?_
  rintro e wc3 ⟨rfl, hb⟩
  replace A := hide ((unhide A).ups hb); replace R := hide ((unhide R).ups hb); replace S1 := hide ((unhide S1).up hb); replace RS := hide ((unhide RS).up hb); have sz3 := hide (hb.size); replace BB := hide (below_y (unhide BB) hb); clear hb
  cases h1 : storeOk s with
  | false =>
    have ANS : Hid (copyV s src set dst = (s, 4)) := copyV_bad1 h1
    have Ac0_2 := (unhide A).cell 0 rfl; have Ac1_2 := (unhide A).cell 1 rfl; go_wp2_with fail; clear Ac0_2 Ac1_2
    have LO9 : w.heap.size ≤ wc3.heap.size := (unhide BB).size
    refine (copiedStore_any s _ _ _ (unhide FT) ⟨L, unhide HL, unhide S1⟩).mono ?_
    rintro e wca4 ⟨v9, rfl, o9, hb⟩
    obtain ⟨a9, c9, rfl⟩ := o9.shape
    have OW_ := hide (o9.based LO9); clear o9; replace A := hide ((unhide A).ups hb); replace R := hide ((unhide R).ups hb); replace S1 := hide ((unhide S1).up hb); replace RS := hide ((unhide RS).up hb); have sz4 := hide (hb.size); replace BB := hide (below_y (unhide BB) hb); clear hb; have OW := OW_; clear OW_; have Rf0 := (unhide R).frozen 0; have Rf1 := (unhide R).frozen 1; have Re0 := (unhide R).cell 0 rfl; have Re1 := (unhide R).cell 1 rfl; have F := hide (fill2 (unhide R) (.slice a9 s.boxes.length c9) (.int .i64 s.valid))
    obtain ⟨U, hU⟩ : ∃ U, U = ((wca4.setCell ⟨wc1.heap.size, 0, none⟩ (.slice a9 s.boxes.length c9)).setCell ⟨wc1.heap.size, 1, none⟩ (.int .i64 s.valid)) := ⟨_, rfl⟩
    have F9 := unhide F
    rw [← hU] at F9
    have EU := hU.symm; clear F hU; have v0 := F9.obj.cell 0 rfl; have v1 := F9.obj.cell 1 rfl; have F := hide F9; clear F9
    go_wp2_with (refine bodyPost_ret (by simp [results, Try.results26, go_sem, v0, v1]; try rfl) rfl ?_)
    clear EU; have F := unhide F
    rw [unhide ANS]
    exact ⟨_, rfl, (unhide OW).filled F (by decide) (by decide) (by decide), F.below loR (unhide BB)⟩
  | true =>
    go_wp2_with fail
    refine (impl_SetOk_any set vs _ hs (unhide RS).wide).mono ?_
    rintro e wc4 ⟨rfl, hb⟩
    replace A := hide ((unhide A).ups hb); replace R := hide ((unhide R).ups hb); replace S1 := hide ((unhide S1).up hb); replace RS := hide ((unhide RS).up hb); have sz4 := hide (hb.size); replace BB := hide (below_y (unhide BB) hb); clear hb
    cases h2 : okS set with
    | false =>
      have ANS : Hid (copyV s src set dst = (s, 4)) := copyV_bad2 h2
      have Ac0_2 := (unhide A).cell 0 rfl; have Ac1_2 := (unhide A).cell 1 rfl; go_wp2_with fail; clear Ac0_2 Ac1_2
      have LO9 : w.heap.size ≤ wc4.heap.size := (unhide BB).size
      refine (copiedStore_any s _ _ _ (unhide FT) ⟨L, unhide HL, unhide S1⟩).mono ?_
      rintro e wcb5 ⟨v9, rfl, o9, hb⟩
      obtain ⟨a9, c9, rfl⟩ := o9.shape
      have OW_ := hide (o9.based LO9); clear o9; replace A := hide ((unhide A).ups hb); replace R := hide ((unhide R).ups hb); replace S1 := hide ((unhide S1).up hb); replace RS := hide ((unhide RS).up hb); have sz5 := hide (hb.size); replace BB := hide (below_y (unhide BB) hb); clear hb; have OW := OW_; clear OW_; have Rf0 := (unhide R).frozen 0; have Rf1 := (unhide R).frozen 1; have Re0 := (unhide R).cell 0 rfl; have Re1 := (unhide R).cell 1 rfl; have F := hide (fill2 (unhide R) (.slice a9 s.boxes.length c9) (.int .i64 s.valid))
      obtain ⟨U, hU⟩ : ∃ U, U = ((wcb5.setCell ⟨wc1.heap.size, 0, none⟩ (.slice a9 s.boxes.length c9)).setCell ⟨wc1.heap.size, 1, none⟩ (.int .i64 s.valid)) := ⟨_, rfl⟩
      have F9 := unhide F
      rw [← hU] at F9
      have EU := hU.symm; clear F hU; have v0 := F9.obj.cell 0 rfl; have v1 := F9.obj.cell 1 rfl; have F := hide F9; clear F9
      go_wp2_with (refine bodyPost_ret (by simp [results, Try.results26, go_sem, v0, v1]; try rfl) rfl ?_)
      clear EU; have F := unhide F
      rw [unhide ANS]
      exact ⟨_, rfl, (unhide OW).filled F (by decide) (by decide) (by decide), F.below loR (unhide BB)⟩
    | true =>
      have CV := hide (copyV_in (f := src) (n := dst) h1 h2); have RT := hide (right_st h1); clear h1 h2; have Ac0_2 := (unhide A).cell 0 rfl; have Ac1_2 := (unhide A).cell 1 rfl; go_wp2_with fail; clear Ac0_2 Ac1_2
      have LOP : Hid (w.heap.size ≤ wc4.heap.size) := (unhide BB).size
      refine (openedStore_any s _ _ _ (unhide FT) ⟨L, unhide HL, unhide S1⟩).mono ?_
      rintro e wc5 ⟨vP, mbP, P, hPP, rfl, oS, hb⟩
      obtain ⟨aP, cP, rfl⟩ := g_shape oS.row
      rw [List.length_map] at oS ⊢
      have OSP_ := hide (oS.based (unhide LOP)); have HPP := hide hPP; clear oS hPP; replace A := hide ((unhide A).ups hb); replace R := hide ((unhide R).ups hb); replace S1 := hide ((unhide S1).up hb); replace RS := hide ((unhide RS).up hb); have sz5 := hide (hb.size); replace BB := hide (below_y (unhide BB) hb); clear hb; have OSP := OSP_; clear OSP_
      replace LOP : Hid (w.heap.size ≤ wc5.heap.size) := (unhide BB).size
      obtain ⟨wc6, hO⟩ : ∃ X, X = wc5.alloc (.cells ([.slice aP P.length cP, .map (some mbP), .int .i64 s.valid] : List Value).toArray 77) := ⟨_, rfl⟩
      have Ox : HasObj wc6 wc5.heap.size 77 [.slice aP P.length cP, .map (some mbP), .int .i64 s.valid] := by rw [hO]; exact HasObj.new _ _ _
      have hbn : Below wc5.heap.size wc5 wc6 := by rw [hO]; exact (Below.refl _ _).alloc (Nat.le_refl _) _
      have neAO : w.heap.size ≠ wc5.heap.size := Nat.ne_of_lt (unhide A).lt
      have neRO : wc1.heap.size ≠ wc5.heap.size := Nat.ne_of_lt (unhide R).lt
      have loO : w.heap.size ≤ wc5.heap.size := (unhide BB).size
      have EO := hO.symm; clear hO; replace A := hide ((unhide A).ups hbn); replace R := hide ((unhide R).ups hbn); replace S1 := hide ((unhide S1).up hbn); replace RS := hide ((unhide RS).up hbn); replace OSP := hide ((unhide OSP).up hbn); have sz6 := hide (hbn.size); replace BB := hide (below_y (unhide BB) hbn); clear hbn; have O := hide Ox; clear Ox
      cases f1 : findB P src with
      | none =>
        cases f2 : findB P dst with
        | none =>
          have F1 := hide f1; have F2 := hide f2; have B1 := hide (found_no (unhide HPP) f1); clear f1 f2; have Oc0_3 := (unhide O).cell 0 rfl; have Oc1_3 := (unhide O).cell 1 rfl; have Oc2_3 := (unhide O).cell 2 rfl
          go_wp2
          clear Oc0_3 Oc1_3 Oc2_3 EO
          refine wp_region_held_drew (S := fun w' => w'.cell? ⟨wc5.heap.size, 0, none⟩ = some (.slice aP P.length cP) ∧ w'.cell? ⟨wc5.heap.size, 1, none⟩ = some (.map (some mbP)) ∧ w'.cell? ⟨wc5.heap.size, 2, none⟩ = some (.int .i64 s.valid) ∧ (Instr.lookup 75 (.map (some mbP)) (.string src) false).run Try.prog w' = .ok (.pointer none) w' ∧ (Instr.lookup 75 (.map (some mbP)) (.string dst) false).run Try.prog w' = .ok (.pointer none) w') (by kernel_rfl) (⟨(unhide O).cell 0 rfl, (unhide O).cell 1 rfl, (unhide O).cell 2 rfl, by first | (have h9 := (unhide OSP).look hz1; rw [unhide F1] at h9; exact h9) | (have h9 := (unhide OSP).drew.look hz1; rw [unhide F1] at h9; exact h9), by first | (have h9 := (unhide OSP).look hz2; rw [unhide F2] at h9; exact h9) | (have h9 := (unhide OSP).drew.look hz2; rw [unhide F2] at h9; exact h9)⟩) (fun hHeld => ?_)
          replace A := hide ((unhide A).drew); replace R := hide ((unhide R).drew); replace O := hide ((unhide O).drew); replace S1 := hide ((unhide S1).drew); replace RS := hide ((unhide RS).drew); replace OSP := hide ((unhide OSP).drew); replace BB := hide ((unhide BB).drew)
          have sz7 : Hid (wc6.heap.size ≤ wc6.drew.heap.size) := Nat.le_refl _
          refine takeVal 0 (some 25) ?_ rfl (by kernel_rfl) (by kernel_rfl) (by kernel_rfl) rfl (fun _ _ _ h => h) (by rfl) (by assumption) ?_ ?_; rotate_left; (intro w hSw; (try dsimp only at hSw); go_simp <;> with_reducible rfl); simp only [Act.put, List.setIfInBounds_toArray, List.set_cons_zero, List.set_cons_succ]
          refine takeVal 1 (some 26) ?_ rfl (by kernel_rfl) (by kernel_rfl) (by kernel_rfl) rfl (fun _ _ _ h => h) (by rfl) (by assumption) ?_ ?_; rotate_left; (intro w hSw; (try dsimp only at hSw); go_simp <;> with_reducible rfl); simp only [Act.put, List.setIfInBounds_toArray, List.set_cons_zero, List.set_cons_succ]
          refine takeVal 2 (some 27) ?_ rfl (by kernel_rfl) (by kernel_rfl) (by kernel_rfl) rfl (fun _ _ _ h => h) (by rfl) (by assumption) ?_ ?_; rotate_left; (intro w hSw; (try dsimp only at hSw); go_simp <;> with_reducible rfl); simp only [Act.put, List.setIfInBounds_toArray, List.set_cons_zero, List.set_cons_succ]
          refine takeVal 3 (some 28) ?_ rfl (by kernel_rfl) (by kernel_rfl) (by kernel_rfl) rfl (fun _ _ _ h => h) (by rfl) (by assumption) ?_ ?_; rotate_left; (intro w hSw; (try dsimp only at hSw); go_simp <;> with_reducible rfl); simp only [Act.put, List.setIfInBounds_toArray, List.set_cons_zero, List.set_cons_succ]
          refine takeVal 4 (some 29) ?_ rfl (by kernel_rfl) (by kernel_rfl) (by kernel_rfl) rfl (fun _ _ _ h => h) (by rfl) (by assumption) ?_ ?_; rotate_left; (intro w hSw; (try dsimp only at hSw); go_simp <;> with_reducible rfl); simp only [Act.put, List.setIfInBounds_toArray, List.set_cons_zero, List.set_cons_succ]
          refine takeVal 5 (some 30) ?_ rfl (by kernel_rfl) (by kernel_rfl) (by kernel_rfl) rfl (fun _ _ _ h => h) (by rfl) (by assumption) ?_ ?_; rotate_left; (intro w hSw; (try dsimp only at hSw); go_simp <;> with_reducible rfl); simp only [Act.put, List.setIfInBounds_toArray, List.set_cons_zero, List.set_cons_succ]
          refine takeVal 6 (some 31) ?_ rfl (by kernel_rfl) (by kernel_rfl) (by kernel_rfl) rfl (fun _ _ _ h => h) (by rfl) (by assumption) ?_ ?_; rotate_left; (intro w hSw; (try dsimp only at hSw); go_simp <;> with_reducible rfl); simp only [Act.put, List.setIfInBounds_toArray, List.set_cons_zero, List.set_cons_succ]
          refine takeVal 7 (some 32) ?_ rfl (by kernel_rfl) (by kernel_rfl) (by kernel_rfl) rfl (fun _ _ _ h => h) (by rfl) (by assumption) ?_ ?_; rotate_left; (intro w hSw; (try dsimp only at hSw); go_simp <;> with_reducible rfl); simp only [Act.put, List.setIfInBounds_toArray, List.set_cons_zero, List.set_cons_succ]
          refine takeVal 8 (some 11) ?_ rfl (by kernel_rfl) (by kernel_rfl) (by kernel_rfl) rfl (fun _ _ _ h => h) (by rfl) (by assumption) ?_ ?_; rotate_left; (intro w hSw; (try dsimp only at hSw); go_simp <;> with_reducible rfl); simp only [Act.put, List.setIfInBounds_toArray, List.set_cons_zero, List.set_cons_succ]
          refine takeVal 9 (some 12) ?_ rfl (by kernel_rfl) (by kernel_rfl) (by kernel_rfl) rfl (fun _ _ _ h => h) (by rfl) (by assumption) ?_ ?_; rotate_left; (intro w hSw; (try dsimp only at hSw); go_simp <;> with_reducible rfl); simp only [Act.put, List.setIfInBounds_toArray, List.set_cons_zero, List.set_cons_succ]
          refine wpAnyH_done (by kernel_rfl) ?_ _
          have ANS : Hid (copyV s src set dst = (s, 1)) := by show _ = _; rw [unhide CV, unhide B1]
          have Ac0_4 := (unhide A).cell 0 rfl; have Ac1_4 := (unhide A).cell 1 rfl; go_wp2_with fail; clear Ac0_4 Ac1_4
          have LO9 : w.heap.size ≤ wc6.drew.heap.size := (unhide BB).size
          refine (copiedStore_any s _ _ _ (unhide FT) ⟨L, unhide HL, unhide S1⟩).mono ?_
          rintro e wcn7 ⟨v9, rfl, o9, hb⟩
          obtain ⟨a9, c9, rfl⟩ := o9.shape
          have OW_ := hide (o9.based LO9); clear o9; replace A := hide ((unhide A).ups hb); replace R := hide ((unhide R).ups hb); replace O := hide ((unhide O).ups hb); replace S1 := hide ((unhide S1).up hb); replace RS := hide ((unhide RS).up hb); replace OSP := hide ((unhide OSP).up hb); have sz8 := hide (hb.size); replace BB := hide (below_y (unhide BB) hb); clear hb; have OW := OW_; clear OW_; have Rf0 := (unhide R).frozen 0; have Rf1 := (unhide R).frozen 1; have Re0 := (unhide R).cell 0 rfl; have Re1 := (unhide R).cell 1 rfl; have F := hide (fill2 (unhide R) (.slice a9 s.boxes.length c9) (.int .i64 s.valid))
          obtain ⟨U, hU⟩ : ∃ U, U = ((wcn7.setCell ⟨wc1.heap.size, 0, none⟩ (.slice a9 s.boxes.length c9)).setCell ⟨wc1.heap.size, 1, none⟩ (.int .i64 s.valid)) := ⟨_, rfl⟩
          have F9 := unhide F
          rw [← hU] at F9
          have EU := hU.symm; clear F hU; have v0 := F9.obj.cell 0 rfl; have v1 := F9.obj.cell 1 rfl; have F := hide F9; clear F9
          go_wp2_with (refine bodyPost_ret (by simp [results, Try.results26, go_sem, v0, v1]; try rfl) rfl ?_)
          clear EU; have F := unhide F
          rw [unhide ANS]
          exact ⟨_, rfl, (unhide OW).filled F (by decide) (by decide) (by decide), F.below loR (unhide BB)⟩
        | some g2 =>
          have F1 := hide f1; have F2 := hide f2; have B1 := hide (found_no (unhide HPP) f1); clear f1 f2; have Oc0_3 := (unhide O).cell 0 rfl; have Oc1_3 := (unhide O).cell 1 rfl; have Oc2_3 := (unhide O).cell 2 rfl
          go_wp2
          clear Oc0_3 Oc1_3 Oc2_3 EO
          refine wp_region_held_drew (S := fun w' => w'.cell? ⟨wc5.heap.size, 0, none⟩ = some (.slice aP P.length cP) ∧ w'.cell? ⟨wc5.heap.size, 1, none⟩ = some (.map (some mbP)) ∧ w'.cell? ⟨wc5.heap.size, 2, none⟩ = some (.int .i64 s.valid) ∧ (Instr.lookup 75 (.map (some mbP)) (.string src) false).run Try.prog w' = .ok (.pointer none) w' ∧ (Instr.lookup 75 (.map (some mbP)) (.string dst) false).run Try.prog w' = .ok (.pointer (some ⟨g2, 0, none⟩)) w') (by kernel_rfl) (⟨(unhide O).cell 0 rfl, (unhide O).cell 1 rfl, (unhide O).cell 2 rfl, by first | (have h9 := (unhide OSP).look hz1; rw [unhide F1] at h9; exact h9) | (have h9 := (unhide OSP).drew.look hz1; rw [unhide F1] at h9; exact h9), by first | (have h9 := (unhide OSP).look hz2; rw [unhide F2] at h9; exact h9) | (have h9 := (unhide OSP).drew.look hz2; rw [unhide F2] at h9; exact h9)⟩) (fun hHeld => ?_)
          replace A := hide ((unhide A).drew); replace R := hide ((unhide R).drew); replace O := hide ((unhide O).drew); replace S1 := hide ((unhide S1).drew); replace RS := hide ((unhide RS).drew); replace OSP := hide ((unhide OSP).drew); replace BB := hide ((unhide BB).drew)
          have sz7 : Hid (wc6.heap.size ≤ wc6.drew.heap.size) := Nat.le_refl _
          refine takeVal 0 (some 25) ?_ rfl (by kernel_rfl) (by kernel_rfl) (by kernel_rfl) rfl (fun _ _ _ h => h) (by rfl) (by assumption) ?_ ?_; rotate_left; (intro w hSw; (try dsimp only at hSw); go_simp <;> with_reducible rfl); simp only [Act.put, List.setIfInBounds_toArray, List.set_cons_zero, List.set_cons_succ]
          refine takeVal 1 (some 26) ?_ rfl (by kernel_rfl) (by kernel_rfl) (by kernel_rfl) rfl (fun _ _ _ h => h) (by rfl) (by assumption) ?_ ?_; rotate_left; (intro w hSw; (try dsimp only at hSw); go_simp <;> with_reducible rfl); simp only [Act.put, List.setIfInBounds_toArray, List.set_cons_zero, List.set_cons_succ]
          refine takeVal 2 (some 27) ?_ rfl (by kernel_rfl) (by kernel_rfl) (by kernel_rfl) rfl (fun _ _ _ h => h) (by rfl) (by assumption) ?_ ?_; rotate_left; (intro w hSw; (try dsimp only at hSw); go_simp <;> with_reducible rfl); simp only [Act.put, List.setIfInBounds_toArray, List.set_cons_zero, List.set_cons_succ]
          refine takeVal 3 (some 28) ?_ rfl (by kernel_rfl) (by kernel_rfl) (by kernel_rfl) rfl (fun _ _ _ h => h) (by rfl) (by assumption) ?_ ?_; rotate_left; (intro w hSw; (try dsimp only at hSw); go_simp <;> with_reducible rfl); simp only [Act.put, List.setIfInBounds_toArray, List.set_cons_zero, List.set_cons_succ]
          refine takeVal 4 (some 29) ?_ rfl (by kernel_rfl) (by kernel_rfl) (by kernel_rfl) rfl (fun _ _ _ h => h) (by rfl) (by assumption) ?_ ?_; rotate_left; (intro w hSw; (try dsimp only at hSw); go_simp <;> with_reducible rfl); simp only [Act.put, List.setIfInBounds_toArray, List.set_cons_zero, List.set_cons_succ]
          refine takeVal 5 (some 30) ?_ rfl (by kernel_rfl) (by kernel_rfl) (by kernel_rfl) rfl (fun _ _ _ h => h) (by rfl) (by assumption) ?_ ?_; rotate_left; (intro w hSw; (try dsimp only at hSw); go_simp <;> with_reducible rfl); simp only [Act.put, List.setIfInBounds_toArray, List.set_cons_zero, List.set_cons_succ]
          refine takeVal 6 (some 31) ?_ rfl (by kernel_rfl) (by kernel_rfl) (by kernel_rfl) rfl (fun _ _ _ h => h) (by rfl) (by assumption) ?_ ?_; rotate_left; (intro w hSw; (try dsimp only at hSw); go_simp <;> with_reducible rfl); simp only [Act.put, List.setIfInBounds_toArray, List.set_cons_zero, List.set_cons_succ]
          refine takeVal 7 (some 32) ?_ rfl (by kernel_rfl) (by kernel_rfl) (by kernel_rfl) rfl (fun _ _ _ h => h) (by rfl) (by assumption) ?_ ?_; rotate_left; (intro w hSw; (try dsimp only at hSw); go_simp <;> with_reducible rfl); simp only [Act.put, List.setIfInBounds_toArray, List.set_cons_zero, List.set_cons_succ]
          refine takeVal 8 (some 11) ?_ rfl (by kernel_rfl) (by kernel_rfl) (by kernel_rfl) rfl (fun _ _ _ h => h) (by rfl) (by assumption) ?_ ?_; rotate_left; (intro w hSw; (try dsimp only at hSw); go_simp <;> with_reducible rfl); simp only [Act.put, List.setIfInBounds_toArray, List.set_cons_zero, List.set_cons_succ]
          refine takeVal 9 (some 12) ?_ rfl (by kernel_rfl) (by kernel_rfl) (by kernel_rfl) rfl (fun _ _ _ h => h) (by rfl) (by assumption) ?_ ?_; rotate_left; (intro w hSw; (try dsimp only at hSw); go_simp <;> with_reducible rfl); simp only [Act.put, List.setIfInBounds_toArray, List.set_cons_zero, List.set_cons_succ]
          refine wpAnyH_done (by kernel_rfl) ?_ _
          have ANS : Hid (copyV s src set dst = (s, 1)) := by show _ = _; rw [unhide CV, unhide B1]
          have Ac0_4 := (unhide A).cell 0 rfl; have Ac1_4 := (unhide A).cell 1 rfl; go_wp2_with fail; clear Ac0_4 Ac1_4
          have LO9 : w.heap.size ≤ wc6.drew.heap.size := (unhide BB).size
          refine (copiedStore_any s _ _ _ (unhide FT) ⟨L, unhide HL, unhide S1⟩).mono ?_
          rintro e wcn7 ⟨v9, rfl, o9, hb⟩
          obtain ⟨a9, c9, rfl⟩ := o9.shape
          have OW_ := hide (o9.based LO9); clear o9; replace A := hide ((unhide A).ups hb); replace R := hide ((unhide R).ups hb); replace O := hide ((unhide O).ups hb); replace S1 := hide ((unhide S1).up hb); replace RS := hide ((unhide RS).up hb); replace OSP := hide ((unhide OSP).up hb); have sz8 := hide (hb.size); replace BB := hide (below_y (unhide BB) hb); clear hb; have OW := OW_; clear OW_; have Rf0 := (unhide R).frozen 0; have Rf1 := (unhide R).frozen 1; have Re0 := (unhide R).cell 0 rfl; have Re1 := (unhide R).cell 1 rfl; have F := hide (fill2 (unhide R) (.slice a9 s.boxes.length c9) (.int .i64 s.valid))
          obtain ⟨U, hU⟩ : ∃ U, U = ((wcn7.setCell ⟨wc1.heap.size, 0, none⟩ (.slice a9 s.boxes.length c9)).setCell ⟨wc1.heap.size, 1, none⟩ (.int .i64 s.valid)) := ⟨_, rfl⟩
          have F9 := unhide F
          rw [← hU] at F9
          have EU := hU.symm; clear F hU; have v0 := F9.obj.cell 0 rfl; have v1 := F9.obj.cell 1 rfl; have F := hide F9; clear F9
          go_wp2_with (refine bodyPost_ret (by simp [results, Try.results26, go_sem, v0, v1]; try rfl) rfl ?_)
          clear EU; have F := unhide F
          rw [unhide ANS]
          exact ⟨_, rfl, (unhide OW).filled F (by decide) (by decide) (by decide), F.below loR (unhide BB)⟩
      | some g1 =>
        cases f2 : findB P dst with
        | none =>
          have F1 := hide f1; have F2 := hide f2; have B2_ := hide (found_no (unhide HPP) f2); clear f1 f2; have Oc0_3 := (unhide O).cell 0 rfl; have Oc1_3 := (unhide O).cell 1 rfl; have Oc2_3 := (unhide O).cell 2 rfl
          go_wp2
          clear Oc0_3 Oc1_3 Oc2_3 EO
          refine wp_region_held_drew (S := fun w' => w'.cell? ⟨wc5.heap.size, 0, none⟩ = some (.slice aP P.length cP) ∧ w'.cell? ⟨wc5.heap.size, 1, none⟩ = some (.map (some mbP)) ∧ w'.cell? ⟨wc5.heap.size, 2, none⟩ = some (.int .i64 s.valid) ∧ (Instr.lookup 75 (.map (some mbP)) (.string src) false).run Try.prog w' = .ok (.pointer (some ⟨g1, 0, none⟩)) w' ∧ (Instr.lookup 75 (.map (some mbP)) (.string dst) false).run Try.prog w' = .ok (.pointer none) w') (by kernel_rfl) (⟨(unhide O).cell 0 rfl, (unhide O).cell 1 rfl, (unhide O).cell 2 rfl, by first | (have h9 := (unhide OSP).look hz1; rw [unhide F1] at h9; exact h9) | (have h9 := (unhide OSP).drew.look hz1; rw [unhide F1] at h9; exact h9), by first | (have h9 := (unhide OSP).look hz2; rw [unhide F2] at h9; exact h9) | (have h9 := (unhide OSP).drew.look hz2; rw [unhide F2] at h9; exact h9)⟩) (fun hHeld => ?_)
          replace A := hide ((unhide A).drew); replace R := hide ((unhide R).drew); replace O := hide ((unhide O).drew); replace S1 := hide ((unhide S1).drew); replace RS := hide ((unhide RS).drew); replace OSP := hide ((unhide OSP).drew); replace BB := hide ((unhide BB).drew)
          have sz7 : Hid (wc6.heap.size ≤ wc6.drew.heap.size) := Nat.le_refl _
          refine takeVal 0 (some 25) ?_ rfl (by kernel_rfl) (by kernel_rfl) (by kernel_rfl) rfl (fun _ _ _ h => h) (by rfl) (by assumption) ?_ ?_; rotate_left; (intro w hSw; (try dsimp only at hSw); go_simp <;> with_reducible rfl); simp only [Act.put, List.setIfInBounds_toArray, List.set_cons_zero, List.set_cons_succ]
          refine takeVal 1 (some 26) ?_ rfl (by kernel_rfl) (by kernel_rfl) (by kernel_rfl) rfl (fun _ _ _ h => h) (by rfl) (by assumption) ?_ ?_; rotate_left; (intro w hSw; (try dsimp only at hSw); go_simp <;> with_reducible rfl); simp only [Act.put, List.setIfInBounds_toArray, List.set_cons_zero, List.set_cons_succ]
          refine takeVal 2 (some 27) ?_ rfl (by kernel_rfl) (by kernel_rfl) (by kernel_rfl) rfl (fun _ _ _ h => h) (by rfl) (by assumption) ?_ ?_; rotate_left; (intro w hSw; (try dsimp only at hSw); go_simp <;> with_reducible rfl); simp only [Act.put, List.setIfInBounds_toArray, List.set_cons_zero, List.set_cons_succ]
          refine takeVal 3 (some 28) ?_ rfl (by kernel_rfl) (by kernel_rfl) (by kernel_rfl) rfl (fun _ _ _ h => h) (by rfl) (by assumption) ?_ ?_; rotate_left; (intro w hSw; (try dsimp only at hSw); go_simp <;> with_reducible rfl); simp only [Act.put, List.setIfInBounds_toArray, List.set_cons_zero, List.set_cons_succ]
          refine takeVal 4 (some 29) ?_ rfl (by kernel_rfl) (by kernel_rfl) (by kernel_rfl) rfl (fun _ _ _ h => h) (by rfl) (by assumption) ?_ ?_; rotate_left; (intro w hSw; (try dsimp only at hSw); go_simp <;> with_reducible rfl); simp only [Act.put, List.setIfInBounds_toArray, List.set_cons_zero, List.set_cons_succ]
          refine takeVal 5 (some 30) ?_ rfl (by kernel_rfl) (by kernel_rfl) (by kernel_rfl) rfl (fun _ _ _ h => h) (by rfl) (by assumption) ?_ ?_; rotate_left; (intro w hSw; (try dsimp only at hSw); go_simp <;> with_reducible rfl); simp only [Act.put, List.setIfInBounds_toArray, List.set_cons_zero, List.set_cons_succ]
          refine takeVal 6 (some 31) ?_ rfl (by kernel_rfl) (by kernel_rfl) (by kernel_rfl) rfl (fun _ _ _ h => h) (by rfl) (by assumption) ?_ ?_; rotate_left; (intro w hSw; (try dsimp only at hSw); go_simp <;> with_reducible rfl); simp only [Act.put, List.setIfInBounds_toArray, List.set_cons_zero, List.set_cons_succ]
          refine takeVal 7 (some 32) ?_ rfl (by kernel_rfl) (by kernel_rfl) (by kernel_rfl) rfl (fun _ _ _ h => h) (by rfl) (by assumption) ?_ ?_; rotate_left; (intro w hSw; (try dsimp only at hSw); go_simp <;> with_reducible rfl); simp only [Act.put, List.setIfInBounds_toArray, List.set_cons_zero, List.set_cons_succ]
          refine takeVal 8 (some 11) ?_ rfl (by kernel_rfl) (by kernel_rfl) (by kernel_rfl) rfl (fun _ _ _ h => h) (by rfl) (by assumption) ?_ ?_; rotate_left; (intro w hSw; (try dsimp only at hSw); go_simp <;> with_reducible rfl); simp only [Act.put, List.setIfInBounds_toArray, List.set_cons_zero, List.set_cons_succ]
          refine takeVal 9 (some 12) ?_ rfl (by kernel_rfl) (by kernel_rfl) (by kernel_rfl) rfl (fun _ _ _ h => h) (by rfl) (by assumption) ?_ ?_; rotate_left; (intro w hSw; (try dsimp only at hSw); go_simp <;> with_reducible rfl); simp only [Act.put, List.setIfInBounds_toArray, List.set_cons_zero, List.set_cons_succ]
          refine wpAnyH_done (by kernel_rfl) ?_ _
          have ANS : Hid (copyV s src set dst = (s, 1)) := by show _ = _; rw [unhide CV, unhide B2_]; cases boxAt s src <;> rfl
          have Ac0_4 := (unhide A).cell 0 rfl; have Ac1_4 := (unhide A).cell 1 rfl; go_wp2_with fail; clear Ac0_4 Ac1_4
          have LO9 : w.heap.size ≤ wc6.drew.heap.size := (unhide BB).size
          refine (copiedStore_any s _ _ _ (unhide FT) ⟨L, unhide HL, unhide S1⟩).mono ?_
          rintro e wcm7 ⟨v9, rfl, o9, hb⟩
          obtain ⟨a9, c9, rfl⟩ := o9.shape
          have OW_ := hide (o9.based LO9); clear o9; replace A := hide ((unhide A).ups hb); replace R := hide ((unhide R).ups hb); replace O := hide ((unhide O).ups hb); replace S1 := hide ((unhide S1).up hb); replace RS := hide ((unhide RS).up hb); replace OSP := hide ((unhide OSP).up hb); have sz8 := hide (hb.size); replace BB := hide (below_y (unhide BB) hb); clear hb; have OW := OW_; clear OW_; have Rf0 := (unhide R).frozen 0; have Rf1 := (unhide R).frozen 1; have Re0 := (unhide R).cell 0 rfl; have Re1 := (unhide R).cell 1 rfl; have F := hide (fill2 (unhide R) (.slice a9 s.boxes.length c9) (.int .i64 s.valid))
          obtain ⟨U, hU⟩ : ∃ U, U = ((wcm7.setCell ⟨wc1.heap.size, 0, none⟩ (.slice a9 s.boxes.length c9)).setCell ⟨wc1.heap.size, 1, none⟩ (.int .i64 s.valid)) := ⟨_, rfl⟩
          have F9 := unhide F
          rw [← hU] at F9
          have EU := hU.symm; clear F hU; have v0 := F9.obj.cell 0 rfl; have v1 := F9.obj.cell 1 rfl; have F := hide F9; clear F9
          go_wp2_with (refine bodyPost_ret (by simp [results, Try.results26, go_sem, v0, v1]; try rfl) rfl ?_)
          clear EU; have F := unhide F
          rw [unhide ANS]
          exact ⟨_, rfl, (unhide OW).filled F (by decide) (by decide) (by decide), F.below loR (unhide BB)⟩
        | some g2 =>
          have F1 := hide f1; have F2 := hide f2
          obtain ⟨k1, x1, hk1, _, _, _, at1⟩ := found_at (unhide HPP) f1
          obtain ⟨k2, x2, hk2, hb2, hs2, hno2, at2⟩ := found_at (unhide HPP) f2
          have AT1 := hide at1; have AT2 := hide at2; have HK1 := hide hk1; have HK2 := hide hk2; have HB2 := hide hb2; have HNO2 := hide hno2; have OK1 := hide ((unhide RT).each _ (boxAt_mem at1).1).1; have OK2 := hide ((unhide RT).each _ (boxAt_mem at2).1).1; have ND := hide (boxAt_mem at2).2; clear f1 f2 hk1 hk2 hb2 hs2 hno2 at1 at2; have FX1 := hide (fit_ok (unhide OK1)); have l30 := (head_parts (boxOk_iff.1 (unhide OK1)).1).2.2.2.2.1; have Oc0_3 := (unhide O).cell 0 rfl; have Oc1_3 := (unhide O).cell 1 rfl; have Oc2_3 := (unhide O).cell 2 rfl
          go_wp2
          clear Oc0_3 Oc1_3 Oc2_3 EO
          refine wp_region_held_drew (S := fun w' => w'.cell? ⟨wc5.heap.size, 0, none⟩ = some (.slice aP P.length cP) ∧ w'.cell? ⟨wc5.heap.size, 1, none⟩ = some (.map (some mbP)) ∧ w'.cell? ⟨wc5.heap.size, 2, none⟩ = some (.int .i64 s.valid) ∧ (Instr.lookup 75 (.map (some mbP)) (.string src) false).run Try.prog w' = .ok (.pointer (some ⟨g1, 0, none⟩)) w' ∧ (Instr.lookup 75 (.map (some mbP)) (.string dst) false).run Try.prog w' = .ok (.pointer (some ⟨g2, 0, none⟩)) w') (by kernel_rfl) (⟨(unhide O).cell 0 rfl, (unhide O).cell 1 rfl, (unhide O).cell 2 rfl, by first | (have h9 := (unhide OSP).look hz1; rw [unhide F1] at h9; exact h9) | (have h9 := (unhide OSP).drew.look hz1; rw [unhide F1] at h9; exact h9), by first | (have h9 := (unhide OSP).look hz2; rw [unhide F2] at h9; exact h9) | (have h9 := (unhide OSP).drew.look hz2; rw [unhide F2] at h9; exact h9)⟩) (fun hHeld => ?_)
          replace A := hide ((unhide A).drew); replace R := hide ((unhide R).drew); replace O := hide ((unhide O).drew); replace S1 := hide ((unhide S1).drew); replace RS := hide ((unhide RS).drew); replace OSP := hide ((unhide OSP).drew); replace BB := hide ((unhide BB).drew)
          have sz7 : Hid (wc6.heap.size ≤ wc6.drew.heap.size) := Nat.le_refl _
          refine takeVal 0 (some 25) ?_ rfl (by kernel_rfl) (by kernel_rfl) (by kernel_rfl) rfl (fun _ _ _ h => h) (by rfl) (by assumption) ?_ ?_; rotate_left; (intro w hSw; (try dsimp only at hSw); go_simp <;> with_reducible rfl); simp only [Act.put, List.setIfInBounds_toArray, List.set_cons_zero, List.set_cons_succ]
          refine takeVal 1 (some 26) ?_ rfl (by kernel_rfl) (by kernel_rfl) (by kernel_rfl) rfl (fun _ _ _ h => h) (by rfl) (by assumption) ?_ ?_; rotate_left; (intro w hSw; (try dsimp only at hSw); go_simp <;> with_reducible rfl); simp only [Act.put, List.setIfInBounds_toArray, List.set_cons_zero, List.set_cons_succ]
          refine takeVal 2 (some 27) ?_ rfl (by kernel_rfl) (by kernel_rfl) (by kernel_rfl) rfl (fun _ _ _ h => h) (by rfl) (by assumption) ?_ ?_; rotate_left; (intro w hSw; (try dsimp only at hSw); go_simp <;> with_reducible rfl); simp only [Act.put, List.setIfInBounds_toArray, List.set_cons_zero, List.set_cons_succ]
          refine takeVal 3 (some 28) ?_ rfl (by kernel_rfl) (by kernel_rfl) (by kernel_rfl) rfl (fun _ _ _ h => h) (by rfl) (by assumption) ?_ ?_; rotate_left; (intro w hSw; (try dsimp only at hSw); go_simp <;> with_reducible rfl); simp only [Act.put, List.setIfInBounds_toArray, List.set_cons_zero, List.set_cons_succ]
          refine takeVal 4 (some 29) ?_ rfl (by kernel_rfl) (by kernel_rfl) (by kernel_rfl) rfl (fun _ _ _ h => h) (by rfl) (by assumption) ?_ ?_; rotate_left; (intro w hSw; (try dsimp only at hSw); go_simp <;> with_reducible rfl); simp only [Act.put, List.setIfInBounds_toArray, List.set_cons_zero, List.set_cons_succ]
          refine takeVal 5 (some 30) ?_ rfl (by kernel_rfl) (by kernel_rfl) (by kernel_rfl) rfl (fun _ _ _ h => h) (by rfl) (by assumption) ?_ ?_; rotate_left; (intro w hSw; (try dsimp only at hSw); go_simp <;> with_reducible rfl); simp only [Act.put, List.setIfInBounds_toArray, List.set_cons_zero, List.set_cons_succ]
          refine takeVal 6 (some 31) ?_ rfl (by kernel_rfl) (by kernel_rfl) (by kernel_rfl) rfl (fun _ _ _ h => h) (by rfl) (by assumption) ?_ ?_; rotate_left; (intro w hSw; (try dsimp only at hSw); go_simp <;> with_reducible rfl); simp only [Act.put, List.setIfInBounds_toArray, List.set_cons_zero, List.set_cons_succ]
          refine takeVal 7 (some 32) ?_ rfl (by kernel_rfl) (by kernel_rfl) (by kernel_rfl) rfl (fun _ _ _ h => h) (by rfl) (by assumption) ?_ ?_; rotate_left; (intro w hSw; (try dsimp only at hSw); go_simp <;> with_reducible rfl); simp only [Act.put, List.setIfInBounds_toArray, List.set_cons_zero, List.set_cons_succ]
          refine takeVal 8 (some 11) ?_ rfl (by kernel_rfl) (by kernel_rfl) (by kernel_rfl) rfl (fun _ _ _ h => h) (by rfl) (by assumption) ?_ ?_; rotate_left; (intro w hSw; (try dsimp only at hSw); go_simp <;> with_reducible rfl); simp only [Act.put, List.setIfInBounds_toArray, List.set_cons_zero, List.set_cons_succ]
          refine takeVal 9 (some 12) ?_ rfl (by kernel_rfl) (by kernel_rfl) (by kernel_rfl) rfl (fun _ _ _ h => h) (by rfl) (by assumption) ?_ ?_; rotate_left; (intro w hSw; (try dsimp only at hSw); go_simp <;> with_reducible rfl); simp only [Act.put, List.setIfInBounds_toArray, List.set_cons_zero, List.set_cons_succ]
          refine wpAnyH_done (by kernel_rfl) ?_ _
          go_wp2_with fail
          refine (mailsIn_any x1.b x1.m x1.t g1 set vs _ _ _ (by omega) hs ((unhide OSP).objs _ (List.mem_of_getElem? (unhide HK1))).2.1 ((unhide OSP).objs _ (List.mem_of_getElem? (unhide HK1))).2.2 (unhide RS)).mono ?_
          rintro e wc7 ⟨vM, rfl, oM, hb⟩
          have OM_ := hide oM; clear oM RS; replace A := hide ((unhide A).ups hb); replace R := hide ((unhide R).ups hb); replace O := hide ((unhide O).ups hb); replace S1 := hide ((unhide S1).up hb); replace OSP := hide ((unhide OSP).up hb); have sz8 := hide (hb.size); replace BB := hide (below_y (unhide BB) hb); clear hb; have OM := OM_; clear OM_; go_wp2_with fail
          have PLT : Hid (∀ (i : Nat) (p : Lb × Nat), P[i]? = some p → ∀ q, (p.1.m.ownBlock = some q ∨ p.1.t.ownBlock = some q) → q < wc7.heap.size) := fun i p hi q hq => (((unhide OSP).objs p (List.mem_of_getElem? hi)).2.2.base q hq).2
          have hlg2 : w.heap.size ≤ g2 := ((unhide OSP).objs _ (List.mem_of_getElem? (unhide HK2))).1
          refine (addMails_any x2.b x2.m x2.t g2 (inSet set x1.b) vM _ _ _ (unhide OK2) (Nat.le_trans (List.length_filter_le _ _) (by omega)) (fun z hz => (unhide FX1).texts z (List.mem_filter.1 hz).1) (unhide BB).size ((unhide OSP).objs _ (List.mem_of_getElem? (unhide HK2))).2.1 ((unhide OSP).objs _ (List.mem_of_getElem? (unhide HK2))).2.2 (unhide OM)).mono ?_
          rintro e wc8 ⟨rfl, hyes, hg⟩
          have G2 := hide ((unhide OSP).objs _ (List.mem_of_getElem? (unhide HK2))).2.1
          have A_ := hide ((unhide A).kept hg (fun e => obj_ne (unhide A) (unhide G2) (by decide) (Option.some.inj e)))
          have R_ := hide ((unhide R).kept hg (fun e => obj_ne (unhide R) (unhide G2) (by decide) (Option.some.inj e)))
          have O_ := hide ((unhide O).kept hg (fun e => obj_ne (unhide O) (unhide G2) (by decide) (Option.some.inj e)))
          have S1_ := hide ((unhide S1).butB (GrownBut.of hg) (fun q hq1 hq2 => by have q1_ := unhide NS q hq1; have q2_ := Option.some.inj hq2; omega))
          have BB_ : Hid (Below w.heap.size w wc8) := (unhide BB).grown hg (unhide BB).size (fun q hq => by have q2_ := Option.some.inj hq; omega)
          have sz9 := hide (hg.size); replace A := A_; clear A_; replace R := R_; clear R_; replace O := O_; clear O_; replace S1 := S1_; clear S1_; replace BB := BB_; clear BB_
          cases ha : addAll x2.b (inSet set x1.b) with
          | none =>
            clear hyes hg OSP OM G2
            have ANS : Hid (copyV s src set dst = (s, 3)) := by show _ = _; rw [unhide CV, unhide AT1, unhide AT2]; simp only; rw [ha]
            have Ac0_4 := (unhide A).cell 0 rfl; have Ac1_4 := (unhide A).cell 1 rfl; go_wp2_with fail; clear Ac0_4 Ac1_4
            have LO9 : w.heap.size ≤ wc8.heap.size := (unhide BB).size
            refine (copiedStore_any s _ _ _ (unhide FT) ⟨L, unhide HL, unhide S1⟩).mono ?_
            rintro e wcf9 ⟨v9, rfl, o9, hb⟩
            obtain ⟨a9, c9, rfl⟩ := o9.shape
            have OW_ := hide (o9.based LO9); clear o9; replace A := hide ((unhide A).ups hb); replace R := hide ((unhide R).ups hb); replace O := hide ((unhide O).ups hb); replace S1 := hide ((unhide S1).up hb); have sz10 := hide (hb.size); replace BB := hide (below_y (unhide BB) hb); clear hb; have OW := OW_; clear OW_; have Rf0 := (unhide R).frozen 0; have Rf1 := (unhide R).frozen 1; have Re0 := (unhide R).cell 0 rfl; have Re1 := (unhide R).cell 1 rfl; have F := hide (fill2 (unhide R) (.slice a9 s.boxes.length c9) (.int .i64 s.valid))
            obtain ⟨U, hU⟩ : ∃ U, U = ((wcf9.setCell ⟨wc1.heap.size, 0, none⟩ (.slice a9 s.boxes.length c9)).setCell ⟨wc1.heap.size, 1, none⟩ (.int .i64 s.valid)) := ⟨_, rfl⟩
            have F9 := unhide F
            rw [← hU] at F9
            have EU := hU.symm; clear F hU; have v0 := F9.obj.cell 0 rfl; have v1 := F9.obj.cell 1 rfl; have F := hide F9; clear F9
            go_wp2_with (refine bodyPost_ret (by simp [results, Try.results26, go_sem, v0, v1]; try rfl) rfl ?_)
            clear EU; have F := unhide F
            rw [unhide ANS]
            exact ⟨_, rfl, (unhide OW).filled F (by decide) (by decide) (by decide), F.below loR (unhide BB)⟩
          | some b9 =>
            obtain ⟨m9, t9, _, hob, hox, hm9, ht9⟩ := hyes b9 ha
            have ANS : Hid (copyV s src set dst = (putSt s b9, 0)) := by show _ = _; rw [unhide CV, unhide AT1, unhide AT2]; simp only; rw [ha]
            have OBJ := hide (ObjsB.grew (y := (⟨b9, m9, t9⟩ : Lb)) (unhide OSP).objs (unhide OSP).apart (unhide HK2) hg hob hox)
            have ROW : Hid (OwnPt w.heap.size wc8 (.slice aP P.length cP) ((P.set k2 ((⟨b9, m9, t9⟩ : Lb), g2)).map (·.2))) := by show OwnPt _ _ _ _; rw [blocks_set _ (unhide HK2)]; exact g_aside (unhide OSP).row hg (fun q hq e => by cases hq; exact (unhide G2).not_row (by decide) (unhide OSP).row e)
            have APS := hide (aside_set2 (y := (⟨b9, m9, t9⟩ : Lb)) (unhide OSP).apart (unhide HK2) (fun i p hne hi => ⟨fun q h1 h2 => by rcases hm9 q h2 with h3 | h3; exact (aside_at (unhide OSP).apart hi (unhide HK2) hne).2.1 q h1 h3; have q1_ := unhide PLT i p hi q (.inl h1); omega, fun q h1 h2 => by rcases ht9 q h2 with h3 | h3; exact (aside_at (unhide OSP).apart hi (unhide HK2) hne).2.2 q h1 h3; have q1_ := unhide PLT i p hi q (.inr h1); omega⟩))
            have NM9 : b9.name = dst := (addAll_name _ _ _ ha).trans (unhide ND)
            have HPN : Hid ((P.set k2 ((⟨b9, m9, t9⟩ : Lb), g2)).map (·.1.b) = putX b9 s.boxes) := by show _ = _; rw [List.map_set, unhide HPP, putX_at (unhide HB2) (by rw [NM9]; exact sameN_iff.2 (unhide ND)) (by rw [NM9]; exact unhide HNO2)]
            clear hyes hg hob hox hm9 ht9 OSP OM G2 ha NM9; have Oc0_4 := (unhide O).cell 0 rfl; have Oc1_4 := (unhide O).cell 1 rfl; have Oc2_4 := (unhide O).cell 2 rfl; go_wp2_with fail; clear Oc0_4 Oc1_4 Oc2_4
            refine (stored_any _ mbP s.valid _ (P.set k2 ((⟨b9, m9, t9⟩ : Lb), g2)) _ (by rw [List.length_set]; exact open_len (unhide HPP) (unhide FT)) (unhide ROW) (unhide OBJ)).mono ?_
            rintro e wcy9 ⟨v9, rfl, o9, hb⟩
            obtain ⟨a9, c9, rfl⟩ := g_shape o9
            have OW_ := hide (own_of (unhide OBJ) (unhide APS) (unhide HPN) o9 hb (unhide BB).size); clear o9
            have NL : (List.map (fun x => x.1) (P.set k2 ((⟨b9, m9, t9⟩ : Lb), g2))).length = s.boxes.length := by rw [List.length_map, List.length_set, ← unhide HPP, List.length_map]
            rw [NL] at OW_ ⊢
            clear NL S1; replace A := hide ((unhide A).ups hb); replace R := hide ((unhide R).ups hb); replace O := hide ((unhide O).ups hb); have sz10 := hide (hb.size); replace BB := hide (below_y (unhide BB) hb); clear hb; have OW := OW_; clear OW_; have Rf0 := (unhide R).frozen 0; have Rf1 := (unhide R).frozen 1; have Re0 := (unhide R).cell 0 rfl; have Re1 := (unhide R).cell 1 rfl; have F := hide (fill2 (unhide R) (.slice a9 s.boxes.length c9) (.int .i64 s.valid))
            obtain ⟨U, hU⟩ : ∃ U, U = ((wcy9.setCell ⟨wc1.heap.size, 0, none⟩ (.slice a9 s.boxes.length c9)).setCell ⟨wc1.heap.size, 1, none⟩ (.int .i64 s.valid)) := ⟨_, rfl⟩
            have F9 := unhide F
            rw [← hU] at F9
            have EU := hU.symm; clear F hU; have v0 := F9.obj.cell 0 rfl; have v1 := F9.obj.cell 1 rfl; have F := hide F9; clear F9
            go_wp2_with (refine bodyPost_ret (by simp [results, Try.results26, go_sem, v0, v1]; try rfl) rfl ?_)
            clear EU; have F := unhide F
            rw [unhide ANS]
            exact ⟨_, rfl, (unhide OW).filled F (by decide) (by decide) (by decide), F.below loR (unhide BB)⟩
end Go.Proofs.Ytfemplekibpfoac
