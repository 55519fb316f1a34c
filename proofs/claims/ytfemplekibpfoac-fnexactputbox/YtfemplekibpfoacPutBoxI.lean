/- The program's PutBox. Made by gen_stores.py. -/
import Derived.Test.YtfemplekibpfoacOpenI2
namespace Go.Proofs.Ytfemplekibpfoac
open Go.RowKit
open Plain
set_option linter.unusedVariables false
set_option linter.unusedSimpArgs false

theorem set_cases {P : List (Lb × Nat)} {k : Nat} {q p : Lb × Nat} (h : p ∈ P.set k q) : p = q ∨ ∃ i, i ≠ k ∧ P[i]? = some p := by
  obtain ⟨i, hi⟩ := List.mem_iff_getElem?.1 h
  rw [List.getElem?_set] at hi
  split at hi
  · split at hi
    · exact .inl (Option.some.inj hi).symm
    · cases hi
  · exact .inr ⟨i, fun e => by rename_i hne; exact hne e.symm, hi⟩
theorem aside_at {P : List (Lb × Nat)} (hap : P.Pairwise AsideB) {i k : Nat} {p q : Lb × Nat} (hi : P[i]? = some p) (hk : P[k]? = some q) (hne : i ≠ k) : p.2 ≠ q.2 ∧ ApartB p.1 q.1 := by
  obtain ⟨h1, rfl⟩ := List.getElem?_eq_some_iff.1 hi
  obtain ⟨h2, rfl⟩ := List.getElem?_eq_some_iff.1 hk
  rcases Nat.lt_or_gt_of_ne hne with h | h
  · exact List.pairwise_iff_getElem.1 hap i k h1 h2 h
  · have := List.pairwise_iff_getElem.1 hap k i h2 h1 h
    exact ⟨this.1.symm, this.2.symm⟩
theorem aside_set {P : List (Lb × Nat)} (hap : P.Pairwise AsideB) {k g : Nat} {x y : Lb} (hk : P[k]? = some (x, g)) (hn : ∀ p ∈ P, ApartB p.1 y) : (P.set k (y, g)).Pairwise AsideB := by
  rw [List.pairwise_iff_getElem]
  intro i j hi hj hij
  rw [List.length_set] at hi hj
  have hi' := List.getElem?_eq_getElem hi
  have hj' := List.getElem?_eq_getElem hj
  rw [List.getElem_set, List.getElem_set]
  by_cases h1 : k = i
  · rw [if_pos h1, if_neg (by omega)]
    subst h1
    exact ⟨(aside_at hap hj' hk (by omega)).1.symm, (hn _ (List.getElem_mem hj)).symm⟩
  · rw [if_neg h1]
    by_cases h2 : k = j
    · rw [if_pos h2]
      subst h2
      exact ⟨(aside_at hap hi' hk (by omega)).1, hn _ (List.getElem_mem hi)⟩
    · rw [if_neg h2]
      exact List.pairwise_iff_getElem.1 hap i j hi hj hij
theorem blocks_set {P : List (Lb × Nat)} {k g : Nat} {x : Lb} (y : Lb) (hk : P[k]? = some (x, g)) : (P.set k (y, g)).map (·.2) = P.map (·.2) := by
  rw [List.map_set]
  obtain ⟨h1, h2⟩ := List.getElem?_eq_some_iff.1 hk
  apply List.ext_getElem (by simp)
  intro i hi hi2
  rw [List.getElem_set]
  split
  · rename_i e
    subst e
    rw [List.getElem_map, h2]
  · rfl
theorem ObjsB.write {B : Nat} {W U : World} {P : List (Lb × Nat)} {k g : Nat} {x y : Lb} (h : ObjsB B W P) (hap : P.Pairwise AsideB) (hk : P[k]? = some (x, g)) (F : Filled W g 39 (lbC y) U) (hy : OwnBx B W y.m y.t y.b) : ObjsB B U (P.set k (y, g)) := by
  intro p hp
  rcases set_cases hp with rfl | ⟨i, hne, hi⟩
  · exact ⟨(h _ (List.mem_of_getElem? hk)).1, F.obj, ⟨F.row (by decide) hy.1, F.row (by decide) hy.2⟩⟩
  · have hm := h p (List.mem_of_getElem? hi)
    exact ⟨hm.1, F.other (aside_at hap hi hk hne).1 hm.2.1, ⟨F.row (by decide) hm.2.2.1, F.row (by decide) hm.2.2.2⟩⟩
theorem own_of {B : Nat} {w w' : World} {v' : Value} {P : List (Lb × Nat)} {l : List Bx} (ho : ObjsB B w P) (hap : P.Pairwise AsideB) (hP : P.map (·.1.b) = l) (hr : OwnBr w.heap.size w' v' (P.map (·.1))) (hb : Below w.heap.size w w') (hB : B ≤ w.heap.size) : OwnSt B w' v' l := by
  refine ⟨P.map (·.1), by rw [List.map_map]; exact hP, ⟨hr.based hB, fun x hx => ?_⟩, ?_⟩
  · obtain ⟨p, hp, rfl⟩ := List.mem_map.1 hx
    exact (ho p hp).2.2.up hb
  · rw [List.pairwise_map]
    exact hap.imp fun h => h.2
set_option maxHeartbeats 8000000 in
set_option maxRecDepth 100000 in
theorem impl_PutBox_any (s : Sx) (b : Bx) (v m t : Value) (B B2 : Nat) (w : World) (hf : FitSt s) (hfb : FitBx b) (h : ReadSt B w v s.boxes) (hb : OwnBx B2 w m t b) :
    Calls Try.prog 13 #[.agg #[v, .int .i64 s.valid], boxV b m t] w fun e w' => ∃ v', e = .returned (.agg #[v', .int .i64 s.valid]) ∧ OwnSt w.heap.size w' v' (putX b s.boxes) ∧ Below w.heap.size w w' := by
  obtain ⟨a0, c0, rfl⟩ := h.shape
  obtain ⟨am, cm, rfl⟩ := g_shape hb.1
  obtain ⟨at1, ct1, rfl⟩ := g_shape hb.2
  have S1 := hide h
  have OB := hide hb
  have FT := hide hf
  have FB := hide hfb
  have FLD := field_named
  clear h hb hf hfb
  have BB := hide (Below.refl w.heap.size w)
  obtain ⟨wi1, hA⟩ : ∃ X, X = w.alloc (.cells ([.slice a0 s.boxes.length c0, .int .i64 s.valid] : List Value).toArray 33) := ⟨_, rfl⟩
  have Ax : HasObj wi1 w.heap.size 33 [.slice a0 s.boxes.length c0, .int .i64 s.valid] := by rw [hA]; exact HasObj.new _ _ _
  have hbn : Below w.heap.size w wi1 := by rw [hA]; exact (Below.refl _ _).alloc (Nat.le_refl _) _
  have loA : w.heap.size ≤ w.heap.size := (unhide BB).size
  have EA := hA.symm
  clear hA
  have S1_ := hide ((unhide S1).up hbn)
  clear S1
  have S1 := S1_
  clear S1_
  have OB_ := hide ((unhide OB).up hbn)
  clear OB
  have OB := OB_
  clear OB_
  have sz1 := hide (hbn.size)
  have BB_ := hide (below_y (unhide BB) hbn)
  clear BB
  have BB := BB_
  clear BB_
  clear hbn
  have A := hide Ax
  clear Ax
  obtain ⟨wi2, hV⟩ : ∃ X, X = wi1.alloc (.cells ([.string b.name, .int .i64 b.valid, .int .i64 b.next, .int .i64 b.mod, .slice am b.mails.length cm, .slice at1 b.tombs.length ct1, .int .i64 b.hor] : List Value).toArray 39) := ⟨_, rfl⟩
  have Vx : HasObj wi2 wi1.heap.size 39 [.string b.name, .int .i64 b.valid, .int .i64 b.next, .int .i64 b.mod, .slice am b.mails.length cm, .slice at1 b.tombs.length ct1, .int .i64 b.hor] := by rw [hV]; exact HasObj.new _ _ _
  have hbn : Below wi1.heap.size wi1 wi2 := by rw [hV]; exact (Below.refl _ _).alloc (Nat.le_refl _) _
  have neAV : w.heap.size ≠ wi1.heap.size := Nat.ne_of_lt (unhide A).lt
  have loV : w.heap.size ≤ wi1.heap.size := (unhide BB).size
  have EV := hV.symm
  clear hV
  have A_ := hide ((unhide A).ups hbn)
  clear A
  have A := A_
  clear A_
  have S1_ := hide ((unhide S1).up hbn)
  clear S1
  have S1 := S1_
  clear S1_
  have OB_ := hide ((unhide OB).up hbn)
  clear OB
  have OB := OB_
  clear OB_
  have sz2 := hide (hbn.size)
  have BB_ := hide (below_y (unhide BB) hbn)
  clear BB
  have BB := BB_
  clear BB_
  clear hbn
  have V := hide Vx
  clear Vx
  obtain ⟨wi3, hR⟩ : ∃ X, X = wi2.alloc (.cells ([.slice none 0 0, .int .i64 0] : List Value).toArray 33) := ⟨_, rfl⟩
  have Rx : HasObj wi3 wi2.heap.size 33 [.slice none 0 0, .int .i64 0] := by rw [hR]; exact HasObj.new _ _ _
  have hbn : Below wi2.heap.size wi2 wi3 := by rw [hR]; exact (Below.refl _ _).alloc (Nat.le_refl _) _
  have neAR : w.heap.size ≠ wi2.heap.size := Nat.ne_of_lt (unhide A).lt
  have neVR : wi1.heap.size ≠ wi2.heap.size := Nat.ne_of_lt (unhide V).lt
  have loR : w.heap.size ≤ wi2.heap.size := (unhide BB).size
  have ER := hR.symm
  clear hR
  have A_ := hide ((unhide A).ups hbn)
  clear A
  have A := A_
  clear A_
  have V_ := hide ((unhide V).ups hbn)
  clear V
  have V := V_
  clear V_
  have S1_ := hide ((unhide S1).up hbn)
  clear S1
  have S1 := S1_
  clear S1_
  have OB_ := hide ((unhide OB).up hbn)
  clear OB
  have OB := OB_
  clear OB_
  have sz3 := hide (hbn.size)
  have BB_ := hide (below_y (unhide BB) hbn)
  clear BB
  have BB := BB_
  clear BB_
  clear hbn
  have R := hide Rx
  clear Rx
  have Ac0_1 := (unhide A).cell 0 rfl
  have Ac1_1 := (unhide A).cell 1 rfl
  go_enter Try.func13, Try.ntmps13
  go_wp2_with fail
  clear Ac0_1 Ac1_1 EA EV ER
  have LOP : Hid (w.heap.size ≤ wi3.heap.size) := (unhide BB).size
  refine (openedStore_any s _ _ _ (unhide FT) (unhide S1)).mono ?_
  rintro e wi4 ⟨vP, mbP, P, hPP, rfl, oS, hb⟩
  obtain ⟨aP, cP, rfl⟩ := g_shape oS.row
  rw [List.length_map] at oS ⊢
  have OSP_ := hide (oS.based (unhide LOP))
  have HPP := hide hPP
  clear oS hPP
  have A_ := hide ((unhide A).ups hb)
  clear A
  have A := A_
  clear A_
  have V_ := hide ((unhide V).ups hb)
  clear V
  have V := V_
  clear V_
  have R_ := hide ((unhide R).ups hb)
  clear R
  have R := R_
  clear R_
  have S1_ := hide ((unhide S1).up hb)
  clear S1
  have S1 := S1_
  clear S1_
  have OB_ := hide ((unhide OB).up hb)
  clear OB
  have OB := OB_
  clear OB_
  have sz4 := hide (hb.size)
  have BB_ := hide (below_y (unhide BB) hb)
  clear BB
  have BB := BB_
  clear BB_
  clear hb
  have OSP := OSP_
  clear OSP_
  replace LOP : Hid (w.heap.size ≤ wi4.heap.size) := (unhide BB).size
  obtain ⟨wi5, hO⟩ : ∃ X, X = wi4.alloc (.cells ([.slice aP P.length cP, .map (some mbP), .int .i64 s.valid] : List Value).toArray 77) := ⟨_, rfl⟩
  have Ox : HasObj wi5 wi4.heap.size 77 [.slice aP P.length cP, .map (some mbP), .int .i64 s.valid] := by rw [hO]; exact HasObj.new _ _ _
  have hbn : Below wi4.heap.size wi4 wi5 := by rw [hO]; exact (Below.refl _ _).alloc (Nat.le_refl _) _
  have neAO : w.heap.size ≠ wi4.heap.size := Nat.ne_of_lt (unhide A).lt
  have neVO : wi1.heap.size ≠ wi4.heap.size := Nat.ne_of_lt (unhide V).lt
  have neRO : wi2.heap.size ≠ wi4.heap.size := Nat.ne_of_lt (unhide R).lt
  have loO : w.heap.size ≤ wi4.heap.size := (unhide BB).size
  have EO := hO.symm
  clear hO
  have A_ := hide ((unhide A).ups hbn)
  clear A
  have A := A_
  clear A_
  have V_ := hide ((unhide V).ups hbn)
  clear V
  have V := V_
  clear V_
  have R_ := hide ((unhide R).ups hbn)
  clear R
  have R := R_
  clear R_
  have S1_ := hide ((unhide S1).up hbn)
  clear S1
  have S1 := S1_
  clear S1_
  have OB_ := hide ((unhide OB).up hbn)
  clear OB
  have OB := OB_
  clear OB_
  have OSP_ := hide ((unhide OSP).up hbn)
  clear OSP
  have OSP := OSP_
  clear OSP_
  have sz5 := hide (hbn.size)
  have BB_ := hide (below_y (unhide BB) hbn)
  clear BB
  have BB := BB_
  clear BB_
  clear hbn
  have O := hide Ox
  clear Ox
  have LK := (unhide OSP).look (unhide FB).name
  cases hfb : findB P b.name with
  | none =>
    rw [hfb] at LK
    simp only [ptrOf] at LK
    have ANS : Hid (putX b s.boxes = s.boxes) := putX_no (by intro y hy; rw [← unhide HPP] at hy; obtain ⟨z, hz, rfl⟩ := List.mem_map.1 hy; exact findB_none hfb z hz)
    clear hfb
    have Oc0_2 := (unhide O).cell 0 rfl
    have Oc1_2 := (unhide O).cell 1 rfl
    have Oc2_2 := (unhide O).cell 2 rfl
    have Vc0_3 := (unhide V).cell 0 rfl
    have Vc1_3 := (unhide V).cell 1 rfl
    have Vc2_3 := (unhide V).cell 2 rfl
    have Vc3_3 := (unhide V).cell 3 rfl
    have Vc4_3 := (unhide V).cell 4 rfl
    have Vc5_3 := (unhide V).cell 5 rfl
    have Vc6_3 := (unhide V).cell 6 rfl
    have Oc0_4 := (unhide O).cell 0 rfl
    have Oc1_4 := (unhide O).cell 1 rfl
    have Oc2_4 := (unhide O).cell 2 rfl
    go_wp2_with fail
    clear Oc0_2 Oc1_2 Oc2_2 Vc0_3 Vc1_3 Vc2_3 Vc3_3 Vc4_3 Vc5_3 Vc6_3 Oc0_4 Oc1_4 Oc2_4 EO
    refine (stored_any _ mbP s.valid _ (P) _ (open_len (unhide HPP) (unhide FT)) ((unhide OSP).row) ((unhide OSP).objs)).mono ?_
    rintro e win6 ⟨v9, rfl, o9, hb⟩
    obtain ⟨a9, c9, rfl⟩ := g_shape o9
    have OW_ := hide (own_of ((unhide OSP).objs) ((unhide OSP).apart) (unhide HPP) o9 hb (unhide BB).size)
    clear o9
    have NL : (List.map (fun x => x.1) (P)).length = s.boxes.length := by rw [List.length_map, ← unhide HPP, List.length_map]
    rw [NL] at OW_ ⊢
    clear NL
    have A_ := hide ((unhide A).ups hb)
    clear A
    have A := A_
    clear A_
    have V_ := hide ((unhide V).ups hb)
    clear V
    have V := V_
    clear V_
    have R_ := hide ((unhide R).ups hb)
    clear R
    have R := R_
    clear R_
    have O_ := hide ((unhide O).ups hb)
    clear O
    have O := O_
    clear O_
    have sz6 := hide (hb.size)
    have BB_ := hide (below_y (unhide BB) hb)
    clear BB
    have BB := BB_
    clear BB_
    clear hb
    have OW := OW_
    clear OW_
    have Rf0 := (unhide R).frozen 0
    have Rf1 := (unhide R).frozen 1
    have Re0 := (unhide R).cell 0 rfl
    have Re1 := (unhide R).cell 1 rfl
    have F := hide (fill2 (unhide R) (.slice a9 s.boxes.length c9) (.int .i64 s.valid))
    obtain ⟨U, hU⟩ : ∃ U, U = ((win6.setCell ⟨wi2.heap.size, 0, none⟩ (.slice a9 s.boxes.length c9)).setCell ⟨wi2.heap.size, 1, none⟩ (.int .i64 s.valid)) := ⟨_, rfl⟩
    have F9 := unhide F
    rw [← hU] at F9
    have EU := hU.symm
    clear F hU
    have v0 := F9.obj.cell 0 rfl
    have v1 := F9.obj.cell 1 rfl
    have F := hide F9
    clear F9
    go_wp2_with (refine bodyPost_ret (by simp [results, Try.results13, go_sem, v0, v1]; try rfl) rfl ?_)
    clear EU
    have F := unhide F
    rw [unhide ANS]
    exact ⟨_, rfl, (unhide OW).filled F (by decide) (by decide) (by decide), F.below loR (unhide BB)⟩
  | some g0 =>
    rw [hfb] at LK
    simp only [ptrOf] at LK
    obtain ⟨k, x, hk, hk2, hs2, hno, _⟩ := found_at (unhide HPP) hfb
    have ANS : Hid (putX b s.boxes = s.boxes.set k b) := putX_at hk2 hs2 hno
    have HK := hide hk
    have G := hide ((unhide OSP).objs _ (List.mem_of_getElem? hk)).2.1
    have hloG : w.heap.size ≤ g0 := ((unhide OSP).objs _ (List.mem_of_getElem? hk)).1
    clear hk hk2 hs2 hno hfb
    simp only at G
    have Oc0_2 := (unhide O).cell 0 rfl
    have Oc1_2 := (unhide O).cell 1 rfl
    have Oc2_2 := (unhide O).cell 2 rfl
    have Vc0_3 := (unhide V).cell 0 rfl
    have Vc1_3 := (unhide V).cell 1 rfl
    have Vc2_3 := (unhide V).cell 2 rfl
    have Vc3_3 := (unhide V).cell 3 rfl
    have Vc4_3 := (unhide V).cell 4 rfl
    have Vc5_3 := (unhide V).cell 5 rfl
    have Vc6_3 := (unhide V).cell 6 rfl
    have PLT : Hid (∀ z ∈ P, ∀ q, (z.1.m.ownBlock = some q ∨ z.1.t.ownBlock = some q) → q < wi5.heap.size) := fun z hz q hq => (((unhide OSP).objs z hz).2.2.base q hq).2
    go_wp2_with fail
    clear Oc0_2 Oc1_2 Oc2_2 Vc0_3 Vc1_3 Vc2_3 Vc3_3 Vc4_3 Vc5_3 Vc6_3 EO
    refine (copiedBox_any b _ _ B2 _ (unhide FB) (unhide OB)).mono ?_
    rintro e wiy6 ⟨mC, tC, rfl, oC, hb⟩
    obtain ⟨amC, cmC, rfl⟩ := g_shape oC.1
    obtain ⟨atC, ctC, rfl⟩ := g_shape oC.2
    have NC := hide (OwnBx.base oC)
    have A_ := hide ((unhide A).ups hb)
    clear A
    have A := A_
    clear A_
    have V_ := hide ((unhide V).ups hb)
    clear V
    have V := V_
    clear V_
    have R_ := hide ((unhide R).ups hb)
    clear R
    have R := R_
    clear R_
    have O_ := hide ((unhide O).ups hb)
    clear O
    have O := O_
    clear O_
    have G_ := hide ((unhide G).ups hb)
    clear G
    have G := G_
    clear G_
    have OB_ := hide ((unhide OB).up hb)
    clear OB
    have OB := OB_
    clear OB_
    have OSP_ := hide ((unhide OSP).up hb)
    clear OSP
    have OSP := OSP_
    clear OSP_
    have sz6 := hide (hb.size)
    have BB_ := hide (below_y (unhide BB) hb)
    clear BB
    have BB := BB_
    clear BB_
    clear hb
    have OC := hide oC
    clear oC
    have APN : Hid (∀ p ∈ P, ApartB p.1 (⟨b, .slice amC b.mails.length cmC, .slice atC b.tombs.length ctC⟩ : Lb)) := fun z hz => ⟨fun q h1 h2 => by have q1 := unhide PLT z hz q (.inl h1); have q2 := (unhide NC q (.inl h2)).1; omega, fun q h1 h2 => by have q1 := unhide PLT z hz q (.inr h1); have q2 := (unhide NC q (.inr h2)).1; omega⟩
    have LO3 : w.heap.size ≤ wi5.heap.size := by have q1_ := unhide LOP; have sz1_ := unhide sz1; have sz2_ := unhide sz2; have sz3_ := unhide sz3; have sz4_ := unhide sz4; have sz5_ := unhide sz5; have sz6_ := unhide sz6; omega
    have Gf0 := (unhide G).frozen 0
    have Gf1 := (unhide G).frozen 1
    have Gf2 := (unhide G).frozen 2
    have Gf3 := (unhide G).frozen 3
    have Gf4 := (unhide G).frozen 4
    have Gf5 := (unhide G).frozen 5
    have Gf6 := (unhide G).frozen 6
    have Ge0 := (unhide G).cell 0 rfl
    have Ge1 := (unhide G).cell 1 rfl
    have Ge2 := (unhide G).cell 2 rfl
    have Ge3 := (unhide G).cell 3 rfl
    have Ge4 := (unhide G).cell 4 rfl
    have Ge5 := (unhide G).cell 5 rfl
    have Ge6 := (unhide G).cell 6 rfl
    have F_ := fill7 (unhide G) (.string b.name) (.int .i64 b.valid) (.int .i64 b.next) (.int .i64 b.mod) (.slice amC b.mails.length cmC) (.slice atC b.tombs.length ctC) (.int .i64 b.hor)
    obtain ⟨wiy7, hU⟩ : ∃ X, X = (((((((wiy6.setCell ⟨g0, 0, none⟩ (.string b.name)).setCell ⟨g0, 1, none⟩ (.int .i64 b.valid)).setCell ⟨g0, 2, none⟩ (.int .i64 b.next)).setCell ⟨g0, 3, none⟩ (.int .i64 b.mod)).setCell ⟨g0, 4, none⟩ (.slice amC b.mails.length cmC)).setCell ⟨g0, 5, none⟩ (.slice atC b.tombs.length ctC)).setCell ⟨g0, 6, none⟩ (.int .i64 b.hor)) := ⟨_, rfl⟩
    rw [← hU] at F_
    have EU := hU.symm
    clear hU
    have OBJ := hide (ObjsB.write (y := (⟨b, .slice amC b.mails.length cmC, .slice atC b.tombs.length ctC⟩ : Lb)) (unhide OSP).objs (unhide OSP).apart (unhide HK) F_ ((unhide OC).based LO3))
    have ROW : Hid (OwnPt w.heap.size wiy7 (.slice aP P.length cP) ((P.set k ((⟨b, .slice amC b.mails.length cmC, .slice atC b.tombs.length ctC⟩ : Lb), g0)).map (·.2))) := by show OwnPt _ _ _ _; rw [blocks_set _ (unhide HK)]; exact F_.row (by decide) (unhide OSP).row
    have APS := hide (aside_set (unhide OSP).apart (unhide HK) (unhide APN))
    have HPN : Hid ((P.set k ((⟨b, .slice amC b.mails.length cmC, .slice atC b.tombs.length ctC⟩ : Lb), g0)).map (·.1.b) = putX b s.boxes) := by show _ = _; rw [List.map_set, unhide HPP, unhide ANS]
    have R_ := hide (F_.other (obj_ne (unhide R) (unhide G) (by decide)) (unhide R))
    have O_ := hide (F_.other (obj_ne (unhide O) (unhide G) (by decide)) (unhide O))
    have BB_ : Hid (Below w.heap.size w wiy7) := F_.below hloG (unhide BB)
    clear F_ R O BB G OSP OC OB V A
    have R := R_
    have O := O_
    have BB := BB_
    clear R_ O_ BB_
    have Oc0_4 := (unhide O).cell 0 rfl
    have Oc1_4 := (unhide O).cell 1 rfl
    have Oc2_4 := (unhide O).cell 2 rfl
    go_wp2_with fail
    clear Gf0 Gf1 Gf2 Gf3 Gf4 Gf5 Gf6 Ge0 Ge1 Ge2 Ge3 Ge4 Ge5 Ge6 Oc0_4 Oc1_4 Oc2_4 EU
    refine (stored_any _ mbP s.valid _ (P.set k ((⟨b, .slice amC b.mails.length cmC, .slice atC b.tombs.length ctC⟩ : Lb), g0)) _ (by rw [List.length_set]; exact open_len (unhide HPP) (unhide FT)) (unhide ROW) (unhide OBJ)).mono ?_
    rintro e wiy8 ⟨v9, rfl, o9, hb⟩
    obtain ⟨a9, c9, rfl⟩ := g_shape o9
    have OW_ := hide (own_of (unhide OBJ) (unhide APS) (unhide HPN) o9 hb (unhide BB).size)
    clear o9
    have NL : (List.map (fun x => x.1) (P.set k ((⟨b, .slice amC b.mails.length cmC, .slice atC b.tombs.length ctC⟩ : Lb), g0))).length = s.boxes.length := by rw [List.length_map, List.length_set, ← unhide HPP, List.length_map]
    rw [NL] at OW_ ⊢
    clear NL
    have R_ := hide ((unhide R).ups hb)
    clear R
    have R := R_
    clear R_
    have O_ := hide ((unhide O).ups hb)
    clear O
    have O := O_
    clear O_
    have sz7 := hide (hb.size)
    have BB_ := hide (below_y (unhide BB) hb)
    clear BB
    have BB := BB_
    clear BB_
    clear hb
    have OW := OW_
    clear OW_
    have Rf0 := (unhide R).frozen 0
    have Rf1 := (unhide R).frozen 1
    have Re0 := (unhide R).cell 0 rfl
    have Re1 := (unhide R).cell 1 rfl
    have F := hide (fill2 (unhide R) (.slice a9 s.boxes.length c9) (.int .i64 s.valid))
    obtain ⟨U, hU⟩ : ∃ U, U = ((wiy8.setCell ⟨wi2.heap.size, 0, none⟩ (.slice a9 s.boxes.length c9)).setCell ⟨wi2.heap.size, 1, none⟩ (.int .i64 s.valid)) := ⟨_, rfl⟩
    have F9 := unhide F
    rw [← hU] at F9
    have EU := hU.symm
    clear F hU
    have v0 := F9.obj.cell 0 rfl
    have v1 := F9.obj.cell 1 rfl
    have F := hide F9
    clear F9
    go_wp2_with (refine bodyPost_ret (by simp [results, Try.results13, go_sem, v0, v1]; try rfl) rfl ?_)
    clear EU
    have F := unhide F
    skip
    exact ⟨_, rfl, (unhide OW).filled F (by decide) (by decide) (by decide), F.below loR (unhide BB)⟩
end Go.Proofs.Ytfemplekibpfoac
