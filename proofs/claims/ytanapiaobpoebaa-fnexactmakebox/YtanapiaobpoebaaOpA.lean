/- Several texts in one. -/
import Derived.Test.YtanapiaobpoebaaOpenRow
import Derived.Test.YtanapiaobpoebaaCpA
import Derived.Test.YtanapiaobpoebaaRegA
import Derived.Test.YtanapiaobpoebaaBoxI
import Derived.Test.YtanapiaobpoebaaTv
namespace Go.Proofs.Ytanapiaobpoebaa
open Go.RowKit
open Plain
set_option linter.unusedVariables false
set_option linter.unusedSimpArgs false

theorem fill3 {W : World} {r : Nat} {t : TypeId} {v0 v1 v2 : Value} (h : HasObj W r t [v0, v1, v2]) (u0 u1 u2 : Value) :
  Filled W r t [u0, u1, u2] (((W.setCell ⟨r, 0, none⟩ u0).setCell ⟨r, 1, none⟩ u1).setCell ⟨r, 2, none⟩ u2) := by
 have h1 := h.set 0 u0; have h2 := h1.set 1 u1; have h3 := h2.set 2 u2
 refine ⟨h3, fun hne hb => ?_, fun hte hr => ?_, fun hn hb => ?_, by simp⟩
 ·exact (((hb.other (j := 0) hne u0).other (j := 1) hne u1).other (j := 2) hne u2)
 ·exact (h2.row (j := 2) hte (h1.row (j := 1) hte (h.row (j := 0) hte hr u0) u1) u2)
 ·exact (((hb.setCell (p := ⟨r, 0, none⟩) hn u0).setCell (p := ⟨r, 1, none⟩) hn u1).setCell (p := ⟨r, 2, none⟩) hn u2)
set_option maxHeartbeats 8000000 in
set_option maxRecDepth 100000 in
theorem openedStore_any (s : Sx) (v : Value) (B : Nat) (w : World) (hf : FitSt s) (h : ReadSt B w v s.boxes) :
  Calls Try.prog 21 #[.agg #[v, .int .i64 s.valid]] w fun e w' => ∃ v' mb P, P.map (·.1.b) = s.boxes ∧ e = .returned (.agg #[v', .map (some mb), .int .i64 s.valid]) ∧ OpenSt w.heap.size w' v' mb P ∧ Below w.heap.size w w' := by
 obtain ⟨iP, hP, hP0, hP1, hP2⟩ := info_parts Try.infoPBox
 have hmm := @run_makeMap Try.prog
 obtain ⟨L, hL, h⟩ := h
 obtain ⟨a1, c1, rfl⟩ := g_shape h.row
 obtain ⟨n, hn⟩ : ∃ n, n = s.boxes.length := ⟨_, rfl⟩
 have hn1 : L.length = n := by rw [hn, ← hL, List.length_map]
 have hnl := hf.len
 rw [← hn] at hnl
 have S1 := hide h
 rw [hn1] at S1 ⊢
 have FE := hide hf.each; have HL := hide hL; have HN := hide hn; have HN1 := hide hn1; clear h hL hn hn1 hf
 have OR1 : Hid (OwnBr B w (.slice a1 n c1) L) := (uh S1).row
 have EB1 : Hid (EachB B w L) := (uh S1).each
 clear S1; have BB := hide (Below.refl w.heap.size w)
 obtain ⟨wo1, hA⟩ : ∃ X, X = w.alloc (.cells ([.slice a1 n c1, .int .i64 s.valid] : List Value).toArray 28) := ⟨_, rfl⟩
 have Ax : HasObj wo1 w.heap.size 28 [.slice a1 n c1, .int .i64 s.valid] := by rw [hA]; exact HasObj.new _ _ _
 have hbn : Below w.heap.size w wo1 := by rw [hA]; exact (Below.refl _ _).alloc (Nat.le_refl _) _
 have loA : w.heap.size ≤ w.heap.size := (uh BB).size
 have EA := hA.symm; clear hA; replace OR1 := hide ((uh OR1).up hbn); replace EB1 := hide ((uh EB1).up hbn); have sz1 := hide (hbn.size); replace BB := hide (below_y (uh BB) hbn); clear hbn; have A := hide Ax; clear Ax
 obtain ⟨wo2, hR⟩ : ∃ X, X = wo1.alloc (.cells ([.slice none 0 0, .map none, .int .i64 0] : List Value).toArray 50) := ⟨_, rfl⟩
 have Rx : HasObj wo2 wo1.heap.size 50 [.slice none 0 0, .map none, .int .i64 0] := by rw [hR]; exact HasObj.new _ _ _
 have hbn : Below wo1.heap.size wo1 wo2 := by rw [hR]; exact (Below.refl _ _).alloc (Nat.le_refl _) _
 have neAR : w.heap.size ≠ wo1.heap.size := Nat.ne_of_lt (uh A).lt
 have loR : w.heap.size ≤ wo1.heap.size := (uh BB).size
 have ER := hR.symm; clear hR; replace A := hide ((uh A).ups hbn); replace OR1 := hide ((uh OR1).up hbn); replace EB1 := hide ((uh EB1).up hbn); have sz2 := hide (hbn.size); replace BB := hide (below_y (uh BB) hbn); clear hbn; have R := hide Rx; clear Rx
 obtain ⟨wo3, hM⟩ : ∃ X, X = wo2.alloc (.map #[] 0) := ⟨_, rfl⟩
 have NMx : Named w.heap.size wo3 wo2.heap.size [] := by rw [hM]; exact Named.made _ (uh BB).size
 have hbn : Below wo2.heap.size wo2 wo3 := by rw [hM]; exact (Below.refl _ _).alloc (Nat.le_refl _) _
 have EM := hM.symm; clear hM; replace A := hide ((uh A).ups hbn); replace R := hide ((uh R).ups hbn); replace OR1 := hide ((uh OR1).up hbn); replace EB1 := hide ((uh EB1).up hbn); have sz3 := hide (hbn.size); replace BB := hide (below_y (uh BB) hbn); clear hbn; have NM := hide NMx; clear NMx; have Ac0_1 := (uh A).cell 0 rfl; have Ac1_1 := (uh A).cell 1 rfl
 obtain ⟨wo4, hO⟩ : ∃ X, X = wo3.alloc (.cells ([.slice none 0 0, .map (some (wo2.heap.size)), .int .i64 s.valid] : List Value).toArray 50) := ⟨_, rfl⟩
 have Ox : HasObj wo4 wo3.heap.size 50 [.slice none 0 0, .map (some (wo2.heap.size)), .int .i64 s.valid] := by rw [hO]; exact HasObj.new _ _ _
 have hbn : Below wo3.heap.size wo3 wo4 := by rw [hO]; exact (Below.refl _ _).alloc (Nat.le_refl _) _
 have neAO : w.heap.size ≠ wo3.heap.size := Nat.ne_of_lt (uh A).lt
 have neRO : wo1.heap.size ≠ wo3.heap.size := Nat.ne_of_lt (uh R).lt
 have loO : w.heap.size ≤ wo3.heap.size := (uh BB).size
 have EO := hO.symm; clear hO; replace A := hide ((uh A).ups hbn); replace R := hide ((uh R).ups hbn); replace OR1 := hide ((uh OR1).up hbn); replace EB1 := hide ((uh EB1).up hbn); replace NM := hide ((uh NM).up hbn); have sz4 := hide (hbn.size); replace BB := hide (below_y (uh BB) hbn); clear hbn; have O := hide Ox; clear Ox; have Ac0_2 := (uh A).cell 0 rfl; have Ac1_2 := (uh A).cell 1 rfl
 go_enter Try.func21, Try.ntmps21
 go_wp2
 clear Ac0_1 Ac1_1 Ac0_2 Ac1_2 EA ER EM EO
 obtain ⟨REL, HREL⟩ : ∃ REL : Value → World → Prop, Hid (REL = fun i wr => ∃ (k : Nat) (P : List (Lb × Nat)) (Q : List Nat) (S : List (Fl × Nat)) (av : Option Addr) (cv : Nat), k ≤ n ∧ i = .int .i64 k ∧ P.map (·.1.b) = s.boxes.take k ∧ P.map (·.2) = Q ∧ P.Pairwise AsideB ∧ S.length ≤ P.length ∧ (∀ m, (findS S m).map (·.2) = findB P m) ∧ HasObj wr (w.heap.size) 28 [.slice a1 n c1, .int .i64 s.valid] ∧ HasObj wr (wo1.heap.size) 50 [.slice none 0 0, .map none, .int .i64 0] ∧ HasObj wr (wo3.heap.size) 50 [.slice av Q.length cv, .map (some (wo2.heap.size)), .int .i64 s.valid] ∧ OwnBr B wr (.slice a1 n c1) L ∧ EachB B wr L ∧ OwnPt w.heap.size wr (.slice av Q.length cv) Q ∧ ObjsB w.heap.size wr P ∧ Named w.heap.size wr (wo2.heap.size) S ∧ Below w.heap.size w wr) := ⟨_, rfl⟩
 go_loopw [14] (fun i wr => REL i wr) (fun i _ => n - (intOf i).toNat)
 case atStart => rw [uh HREL]; exact ⟨0, [], [], [], none, 0, Nat.zero_le _, rfl, by simp, rfl, List.Pairwise.nil, Nat.le_refl _, fun _ => rfl, uh A, uh R, uh O, uh OR1, uh EB1, World.ownsRow_nil _ _ _ _, ObjsB.nil _ _, uh NM, uh BB⟩
 clear OR1 EB1 BB A R O NM
 case round =>
  rw [uh HREL] at hrel
  obtain ⟨k, P, Q, S, av, cv, hk, rfl, hPk, hPQ, hPA, hSP, hFS, oA, oR, oO, o1, oe, op, ob, nm, hbel⟩ := hrel
  obtain ⟨wo, hwo⟩ : ∃ wo, wo = wr := ⟨_, rfl⟩
  subst hwo
  have HPK := hide hPk; have HPQ := hide hPQ; have HPA := hide hPA; have HSP := hide hSP; have HFS := hide hFS; clear hPk hPQ hPA hSP hFS
  by_cases hlt : k < n
  ·have hkl : k < L.length := by rw [uh HN1]; exact hlt
   have hx : L[k]? = some L[k] := List.getElem?_eq_getElem hkl
   have hbx : s.boxes[k]? = some L[k].b := by rw [← uh HL, List.getElem?_map, hx]; rfl
   have hmx := List.getElem_mem hkl; have hfx := uh FE _ (List.mem_of_getElem? hbx)
   obtain ⟨g1, q1, e3, _, _, _⟩ := br_read o1 hx
   have e5 := (Value.slice.inj e3).1; clear e3
   subst e5
   generalize L[k] = x at *
   obtain ⟨b, m, t⟩ := x
   simp only at hbx hfx
   obtain ⟨am, cm, ee1⟩ := g_shape (oe _ hmx).1
   obtain ⟨at1, ct1, ee2⟩ := g_shape (oe _ hmx).2
   simp only at ee1 ee2
   subst ee1 ee2
   have A := hide oA; have R := hide oR; have O := hide oO; have OR1 := hide o1; have EB1 := hide oe; have OP := hide op; have OB := hide ob; have NM := hide nm; have BB := hide hbel; have X1 := hide hx; have XB := hide hbx; have M1 := hide hmx; have FX := hide hfx
   have hlo9 : w.heap.size ≤ wo.heap.size := hbel.size
   have LPK : Hid (P.length = k) := by have h9 := congrArg List.length (uh HPK); rw [List.length_map, List.length_take, ← uh HN] at h9; show _ = _; omega
   have LQK : Hid (Q.length = k) := by show _ = _; rw [← uh HPQ, List.length_map]; exact uh LPK
   clear oA oR oO o1 oe op ob nm hbel hx hbx hmx hfx
   have i1 : (0 : Int) ≤ (k : Int) := by omega
   have i2 : (k : Int) < (n : Int) := by omega
   have ec0 := (br_of (uh OR1) (uh X1)).1
   simp only at ec0
   have ec1 := (br_of (uh OR1) (uh X1)).2.1
   simp only at ec1
   have ec2 := (br_of (uh OR1) (uh X1)).2.2.1
   simp only at ec2
   have ec3 := (br_of (uh OR1) (uh X1)).2.2.2.1
   simp only at ec3
   have ec4 := (br_of (uh OR1) (uh X1)).2.2.2.2.1
   simp only at ec4
   have ec5 := (br_of (uh OR1) (uh X1)).2.2.2.2.2.1
   simp only at ec5
   have ec6 := (br_of (uh OR1) (uh X1)).2.2.2.2.2.2
   simp only at ec6
   obtain ⟨wor1, hV⟩ : ∃ X, X = wo.alloc (.cells ([.string b.name, .int .i64 b.valid, .int .i64 b.next, .int .i64 b.mod, .slice am b.mails.length cm, .slice at1 b.tombs.length ct1, .int .i64 b.hor] : List Value).toArray 42) := ⟨_, rfl⟩
   have Vx : HasObj wor1 wo.heap.size 42 [.string b.name, .int .i64 b.valid, .int .i64 b.next, .int .i64 b.mod, .slice am b.mails.length cm, .slice at1 b.tombs.length ct1, .int .i64 b.hor] := by rw [hV]; exact HasObj.new _ _ _
   have hbn : Below wo.heap.size wo wor1 := by rw [hV]; exact (Below.refl _ _).alloc (Nat.le_refl _) _
   have neAV : w.heap.size ≠ wo.heap.size := Nat.ne_of_lt (uh A).lt
   have neRV : wo1.heap.size ≠ wo.heap.size := Nat.ne_of_lt (uh R).lt
   have neOV : wo3.heap.size ≠ wo.heap.size := Nat.ne_of_lt (uh O).lt
   have loV : w.heap.size ≤ wo.heap.size := (uh BB).size
   have EV := hV.symm; clear hV; replace A := hide ((uh A).ups hbn); replace R := hide ((uh R).ups hbn); replace O := hide ((uh O).ups hbn); replace OR1 := hide ((uh OR1).up hbn); replace EB1 := hide ((uh EB1).up hbn); replace OP := hide ((uh OP).up hbn); replace OB := hide ((uh OB).up hbn); replace NM := hide ((uh NM).up hbn); have sz101 := hide (hbn.size); replace BB := hide (below_y (uh BB) hbn); clear hbn; have V := hide Vx; clear Vx; have Vc0_51 := (uh V).cell 0 rfl; have Vc1_51 := (uh V).cell 1 rfl; have Vc2_51 := (uh V).cell 2 rfl; have Vc3_51 := (uh V).cell 3 rfl; have Vc4_51 := (uh V).cell 4 rfl; have Vc5_51 := (uh V).cell 5 rfl; have Vc6_51 := (uh V).cell 6 rfl
   have hlo8 : w.heap.size ≤ wor1.heap.size := (uh BB).size
   have PLT : Hid (∀ z ∈ P, z.2 < wor1.heap.size ∧ ∀ q, (z.1.m.ownBlock = some q ∨ z.1.t.ownBlock = some q) → q < wor1.heap.size) := fun z hz => ⟨(uh OB z hz).2.1.lt, fun q hq => ((uh OB z hz).2.2.base q hq).2⟩
   go_wp2_with fail; clear ec0 ec1 ec2 ec3 ec4 ec5 ec6 Vc0_51 Vc1_51 Vc2_51 Vc3_51 Vc4_51 Vc5_51 Vc6_51 EV
   refine (copiedBox_any b _ _ B _ (uh FX) ((uh EB1) _ (uh M1))).mono ?_
   rintro e wor2 ⟨mC, tC, rfl, oC, hb⟩
   obtain ⟨amC, cmC, rfl⟩ := g_shape oC.1
   obtain ⟨atC, ctC, rfl⟩ := g_shape oC.2
   have NC := hide (OwnBx.base oC); replace A := hide ((uh A).ups hb); replace R := hide ((uh R).ups hb); replace O := hide ((uh O).ups hb); replace V := hide ((uh V).ups hb); replace OR1 := hide ((uh OR1).up hb); replace EB1 := hide ((uh EB1).up hb); replace OP := hide ((uh OP).up hb); replace OB := hide ((uh OB).up hb); replace NM := hide ((uh NM).up hb); have sz102 := hide (hb.size); replace BB := hide (below_y (uh BB) hb); clear hb; have OC := hide oC; clear oC
   obtain ⟨wor3, hG⟩ : ∃ X, X = wor2.alloc (.cells ([.string b.name, .int .i64 b.valid, .int .i64 b.next, .int .i64 b.mod, .slice amC b.mails.length cmC, .slice atC b.tombs.length ctC, .int .i64 b.hor] : List Value).toArray 42) := ⟨_, rfl⟩
   have Gx : HasObj wor3 wor2.heap.size 42 [.string b.name, .int .i64 b.valid, .int .i64 b.next, .int .i64 b.mod, .slice amC b.mails.length cmC, .slice atC b.tombs.length ctC, .int .i64 b.hor] := by rw [hG]; exact HasObj.new _ _ _
   have hbn : Below wor2.heap.size wor2 wor3 := by rw [hG]; exact (Below.refl _ _).alloc (Nat.le_refl _) _
   have neAG : w.heap.size ≠ wor2.heap.size := Nat.ne_of_lt (uh A).lt
   have neRG : wo1.heap.size ≠ wor2.heap.size := Nat.ne_of_lt (uh R).lt
   have neOG : wo3.heap.size ≠ wor2.heap.size := Nat.ne_of_lt (uh O).lt
   have neVG : wo.heap.size ≠ wor2.heap.size := Nat.ne_of_lt (uh V).lt
   have loG : w.heap.size ≤ wor2.heap.size := (uh BB).size
   have EG := hG.symm; clear hG; replace A := hide ((uh A).ups hbn); replace R := hide ((uh R).ups hbn); replace O := hide ((uh O).ups hbn); replace V := hide ((uh V).ups hbn); replace OR1 := hide ((uh OR1).up hbn); replace EB1 := hide ((uh EB1).up hbn); replace OP := hide ((uh OP).up hbn); replace OB := hide ((uh OB).up hbn); replace NM := hide ((uh NM).up hbn); replace OC := hide ((uh OC).up hbn); have sz103 := hide (hbn.size); replace BB := hide (below_y (uh BB) hbn); clear hbn; have G := hide Gx; clear Gx
   have hloG : w.heap.size ≤ wor2.heap.size := loG
   have Oc0_52 := (uh O).cell 0 rfl; have Oc1_52 := (uh O).cell 1 rfl; have Oc2_52 := (uh O).cell 2 rfl
   have APN : Hid (∀ z ∈ P, AsideB z ((⟨b, .slice amC b.mails.length cmC, .slice atC b.tombs.length ctC⟩ : Lb), wor2.heap.size)) := fun z hz => ⟨Nat.ne_of_lt (Nat.lt_of_lt_of_le (uh PLT z hz).1 (by have sz101_ := uh sz101; have sz102_ := uh sz102; have sz103_ := uh sz103; omega)), ⟨fun q h1 h2 => by have q1 := (uh PLT z hz).2 q (.inl h1); have q2 := (uh NC q (.inl h2)).1; omega, fun q h1 h2 => by have q1 := (uh PLT z hz).2 q (.inr h1); have q2 := (uh NC q (.inr h2)).1; omega⟩⟩
   have lw4 := (uh BB).size
   go_wp2_with (at_builtin; refine wpList_append_lies _ rfl _ _ 47 rfl w.heap.size 52 iP _ 1 8 Try.underlying47 hP hP0 hP1 hP2 rfl (by decide) _ _ _ rfl (World.ownsRow.alloc (uh OP) _) ⟨wor3.heap.size, 0, none⟩ 1 1 (ptC (wor2.heap.size)) rfl rfl (newsC _ _) ?c2 (by decide) ?c3 ?c4 ?c5 (wor3.heap.size + 1) (by simp) ?_)
   clear Oc0_52 Oc1_52 Oc2_52 EG
   case c2 => intro u hu; simp [ptC] at hu; subst hu; rfl
   case c3 => unfold maxLen; have := uh LQK; omega
   case c4 => have := uh LQK; omega
   case c5 => have q1_ := (uh BB).size; have sz101_ := uh sz101; have sz102_ := uh sz102; have sz103_ := uh sz103; simp; omega
   intro gOP4 capOP4 wor4 hown hgr hat hlt_
   have oa := World.ownsRow.alloc (uh OP) (.cells ((ptC (wor2.heap.size)) : List Value).toArray 52)
   have A_ := hide (((uh A).alloc (.cells ((ptC (wor2.heap.size)) : List Value).toArray 52)).kept hgr (fun e => ((uh A).alloc (.cells ((ptC (wor2.heap.size)) : List Value).toArray 52)).not_row (by decide) oa e.symm))
   have R_ := hide (((uh R).alloc (.cells ((ptC (wor2.heap.size)) : List Value).toArray 52)).kept hgr (fun e => ((uh R).alloc (.cells ((ptC (wor2.heap.size)) : List Value).toArray 52)).not_row (by decide) oa e.symm))
   have O_ := hide (((uh O).alloc (.cells ((ptC (wor2.heap.size)) : List Value).toArray 52)).kept hgr (fun e => ((uh O).alloc (.cells ((ptC (wor2.heap.size)) : List Value).toArray 52)).not_row (by decide) oa e.symm))
   have V_ := hide (((uh V).alloc (.cells ((ptC (wor2.heap.size)) : List Value).toArray 52)).kept hgr (fun e => ((uh V).alloc (.cells ((ptC (wor2.heap.size)) : List Value).toArray 52)).not_row (by decide) oa e.symm))
   have G_ := hide (((uh G).alloc (.cells ((ptC (wor2.heap.size)) : List Value).toArray 52)).kept hgr (fun e => ((uh G).alloc (.cells ((ptC (wor2.heap.size)) : List Value).toArray 52)).not_row (by decide) oa e.symm))
   have OR1_ : Hid (OwnBr B wor4 (.slice (some ⟨g1, 0, none⟩) n c1) (L)) := g_aside (World.ownsRow.alloc (uh OR1) (.cells ((ptC (wor2.heap.size)) : List Value).toArray 52)) hgr (fun x hx => rows_apart (oa) (World.ownsRow.alloc (uh OR1) (.cells ((ptC (wor2.heap.size)) : List Value).toArray 52)) (by decide) x hx)
   have EB1_ : Hid (EachB B wor4 (L)) := ((uh EB1).up ((Below.refl _ _).alloc (Nat.le_refl _) (.cells ((ptC (wor2.heap.size)) : List Value).toArray 52))).aside oa hgr (by decide) (by decide)
   have OB_ : Hid (ObjsB w.heap.size wor4 (P)) := ((uh OB).up ((Below.refl _ _).alloc (Nat.le_refl _) (.cells ((ptC (wor2.heap.size)) : List Value).toArray 52))).aside oa hgr (by decide) (by decide) (by decide)
   have NM_ : Hid (Named w.heap.size wor4 (wo2.heap.size) (S)) := ((uh NM).up ((Below.refl _ _).alloc (Nat.le_refl _) (.cells ((ptC (wor2.heap.size)) : List Value).toArray 52))).kept hgr (fun e => ((uh NM).up ((Below.refl _ _).alloc (Nat.le_refl _) (.cells ((ptC (wor2.heap.size)) : List Value).toArray 52))).no_row oa e.symm)
   have OC_ : Hid (OwnBx wor1.heap.size wor4 (.slice amC b.mails.length cmC) (.slice atC b.tombs.length ctC) b) := ⟨g_aside (World.ownsRow.alloc (uh OC).1 (.cells ((ptC (wor2.heap.size)) : List Value).toArray 52)) hgr (fun x hx => rows_apart oa (World.ownsRow.alloc (uh OC).1 (.cells ((ptC (wor2.heap.size)) : List Value).toArray 52)) (by decide) x hx), g_aside (World.ownsRow.alloc (uh OC).2 (.cells ((ptC (wor2.heap.size)) : List Value).toArray 52)) hgr (fun x hx => rows_apart oa (World.ownsRow.alloc (uh OC).2 (.cells ((ptC (wor2.heap.size)) : List Value).toArray 52)) (by decide) x hx)⟩
   have OP_ : Hid (OwnPt w.heap.size wor4 (.slice (some ⟨gOP4, 0, none⟩) (Q.length + 1) capOP4) (Q ++ [wor2.heap.size])) := by exact OwnPt.snoc hown
   have BB_ : Hid (Below w.heap.size w wor4) := ((uh BB).alloc (uh BB).size _).grown hgr (by have q1_ := (uh BB).size; simp; omega) (fun b hb => by have q2_ := (World.ownsRow.lt (uh OP) b hb).1; have q1_ := (uh BB).size; have sz101_ := uh sz101; have sz102_ := uh sz102; have sz103_ := uh sz103; omega)
   have sz104 : Hid (wor3.heap.size ≤ wor4.heap.size) := by have q3_ := hgr.size; simp at q3_; show _ ≤ _; omega
   replace A := A_; clear A_; replace R := R_; clear R_; replace O := O_; clear O_; replace V := V_; clear V_; replace G := G_; clear G_; replace OR1 := OR1_; clear OR1_; replace EB1 := EB1_; clear EB1_; replace OP := OP_; clear OP_; replace OB := OB_; clear OB_; replace NM := NM_; clear NM_; replace OC := OC_; clear OC_; replace BB := BB_; clear BB_; clear hown hgr oa lw4 hat hlt_; have Ofz0_53 := (uh O).frozen 0; have Ocz0_53 := (uh O).cell 0 rfl
   obtain ⟨wor5, hst⟩ : ∃ X, X = wor4.setCell ⟨wo3.heap.size, 0, none⟩ ((.slice (some ⟨gOP4, 0, none⟩) (Q.length + 1) capOP4)) := ⟨_, rfl⟩
   have OR1_ : Hid (OwnBr B wor5 (.slice (some ⟨g1, 0, none⟩) n c1) (L)) := by show OwnBr _ _ _ _; rw [hst]; exact (uh O).row (j := 0) (by decide) (uh OR1) _
   have EB1_ : Hid (EachB B wor5 (L)) := by show EachB _ _ _; rw [hst]; exact (uh EB1).set (j := 0) (uh O) (by decide) (by decide) _
   have OP_ : Hid (OwnPt w.heap.size wor5 ((.slice (some ⟨gOP4, 0, none⟩) (Q.length + 1) capOP4)) (Q ++ [wor2.heap.size])) := by show OwnPt _ _ _ _; rw [hst]; exact (uh O).row (j := 0) (by decide) (uh OP) _
   have OB_ : Hid (ObjsB w.heap.size wor5 (P)) := by show ObjsB _ _ _; rw [hst]; exact (uh OB).set (j := 0) (uh O) (by decide) (by decide) (by decide) _
   have NM_ : Hid (Named w.heap.size wor5 (wo2.heap.size) (S)) := by show Named _ _ _ _; rw [hst]; exact (uh NM).set (j := 0) (uh O) _
   have OC_ : Hid (OwnBx wor1.heap.size wor5 (.slice amC b.mails.length cmC) (.slice atC b.tombs.length ctC) b) := by show OwnBx _ _ _ _ _; rw [hst]; exact ⟨(uh O).row (j := 0) (by decide) (uh OC).1 _, (uh O).row (j := 0) (by decide) (uh OC).2 _⟩
   have A_ := hide ((uh A).other (j := 0) neAO ((.slice (some ⟨gOP4, 0, none⟩) (Q.length + 1) capOP4)))
   rw [← hst] at A_
   have R_ := hide ((uh R).other (j := 0) neRO ((.slice (some ⟨gOP4, 0, none⟩) (Q.length + 1) capOP4)))
   rw [← hst] at R_
   have O_ := hide ((uh O).set 0 ((.slice (some ⟨gOP4, 0, none⟩) (Q.length + 1) capOP4)))
   rw [← hst] at O_
   have V_ := hide ((uh V).other (j := 0) neOV.symm ((.slice (some ⟨gOP4, 0, none⟩) (Q.length + 1) capOP4)))
   rw [← hst] at V_
   have G_ := hide ((uh G).other (j := 0) neOG.symm ((.slice (some ⟨gOP4, 0, none⟩) (Q.length + 1) capOP4)))
   rw [← hst] at G_
   have BB_ := hide ((uh BB).setCell (p := ⟨wo3.heap.size, 0, none⟩) (show w.heap.size ≤ wo3.heap.size from loO) ((.slice (some ⟨gOP4, 0, none⟩) (Q.length + 1) capOP4)))
   rw [← hst] at BB_
   have sz105 : Hid (wor4.heap.size ≤ wor5.heap.size) := by show _ ≤ _; rw [hst]; simp
   replace OR1 := OR1_; clear OR1_; replace EB1 := EB1_; clear EB1_; replace OP := OP_; clear OP_; replace OB := OB_; clear OB_; replace NM := NM_; clear NM_; replace OC := OC_; clear OC_; replace A := A_; clear A_; replace R := R_; clear R_; replace O := O_; clear O_; replace V := V_; clear V_; replace G := G_; clear G_; replace BB := BB_; clear BB_; have Est105 := hst.symm; clear hst
   have OCB : Hid (OwnBx w.heap.size wor5 (.slice amC b.mails.length cmC) (.slice atC b.tombs.length ctC) b) := OwnBx.based (uh OC) hlo8
   have OB9 := hide (ObjsB.snoc (p := ((⟨b, .slice amC b.mails.length cmC, .slice atC b.tombs.length ctC⟩ : Lb), wor2.heap.size)) (uh OB) hloG (uh G) (uh OCB))
   clear OB OCB OC; have OB := OB9; clear OB9
   have e9 : Q.length + 1 = (Q ++ [wor2.heap.size]).length := by simp
   rw [e9] at O OP
   clear e9
   have HPK9 : Hid ((P ++ [((⟨b, .slice amC b.mails.length cmC, .slice atC b.tombs.length ctC⟩ : Lb), wor2.heap.size)]).map (·.1.b) = s.boxes.take (k + 1)) := by show _ = _; rw [List.map_append, uh HPK, take_snoc (uh XB)]; rfl
   have HPQ9 : Hid ((P ++ [((⟨b, .slice amC b.mails.length cmC, .slice atC b.tombs.length ctC⟩ : Lb), wor2.heap.size)]).map (·.2) = Q ++ [wor2.heap.size]) := by show _ = _; rw [List.map_append, uh HPQ]; rfl
   have HPA9 : Hid ((P ++ [((⟨b, .slice amC b.mails.length cmC, .slice atC b.tombs.length ctC⟩ : Lb), wor2.heap.size)]).Pairwise AsideB) := List.pairwise_append.2 ⟨uh HPA, by simp, fun z hz z2 hz2 => by simp at hz2; subst hz2; exact uh APN z hz⟩
   have LK := (uh NM).look (n := b.name) (uh FX).name
   rw [uh HFS] at LK
   have hnm := (uh FX).name
   cases hfb : findB P b.name with
   | some g0 =>
    rw [hfb] at LK
    simp only [ptrOf] at LK
    have HFS9 := hide (names_old (p := ((⟨b, .slice amC b.mails.length cmC, .slice atC b.tombs.length ctC⟩ : Lb), wor2.heap.size)) (uh HFS) hfb)
    clear hfb; have Oc0_54 := (uh O).cell 0 rfl; have Oc1_54 := (uh O).cell 1 rfl; have Oc2_54 := (uh O).cell 2 rfl; have Gc0_55 := (uh G).cell 0 rfl; have Gc1_55 := (uh G).cell 1 rfl; have Gc2_55 := (uh G).cell 2 rfl; have Gc3_55 := (uh G).cell 3 rfl; have Gc4_55 := (uh G).cell 4 rfl; have Gc5_55 := (uh G).cell 5 rfl; have Gc6_55 := (uh G).cell 6 rfl
    go_wp2
    clear Ofz0_53 Ocz0_53 Oc0_54 Oc1_54 Oc2_54 Gc0_55 Gc1_55 Gc2_55 Gc3_55 Gc4_55 Gc5_55 Gc6_55 Est105
    go_roundw
    case rel => rw [uh HREL]; exact ⟨k + 1, _, _, _, _, _, by omega, by go_num, uh HPK9, uh HPQ9, uh HPA9, by have h1 := uh HSP; rw [List.length_append]; omega, uh HFS9, uh A, uh R, uh O, uh OR1, uh EB1, uh OP, uh OB, uh NM, uh BB⟩
    case measure => simp [intOf]; omega
   | none =>
    rw [hfb] at LK
    simp only [ptrOf] at LK
    have HFS9 := hide (names_new (p := ((⟨b, .slice amC b.mails.length cmC, .slice atC b.tombs.length ctC⟩ : Lb), wor2.heap.size)) (uh NM).2.2 (uh HFS) hfb)
    have LS9 := hide (putS_len_le S (⟨b.name, ByteArray.empty, 0⟩, wor2.heap.size))
    obtain ⟨w9, MU, nm9, hg9⟩ := (uh NM).put (n := b.name) (g := wor2.heap.size) hnm (by have h1 := uh HSP; have h2 := uh LPK; omega)
    have NM9 := hide nm9; have HG9 := hide hg9; clear hfb nm9 hg9; have Oc0_54 := (uh O).cell 0 rfl; have Oc1_54 := (uh O).cell 1 rfl; have Oc2_54 := (uh O).cell 2 rfl; have Gc0_55 := (uh G).cell 0 rfl; have Gc1_55 := (uh G).cell 1 rfl; have Gc2_55 := (uh G).cell 2 rfl; have Gc3_55 := (uh G).cell 3 rfl; have Gc4_55 := (uh G).cell 4 rfl; have Gc5_55 := (uh G).cell 5 rfl; have Gc6_55 := (uh G).cell 6 rfl
    go_wp2
    clear Ofz0_53 Ocz0_53 Oc0_54 Oc1_54 Oc2_54 Gc0_55 Gc1_55 Gc2_55 Gc3_55 Gc4_55 Gc5_55 Gc6_55 Est105; clear LK MU; have hg9 := uh HG9
    have A_ := hide ((uh A).kept hg9 (fun e => (uh NM).no_obj (uh A) (Option.some.inj e)))
    have R_ := hide ((uh R).kept hg9 (fun e => (uh NM).no_obj (uh R) (Option.some.inj e)))
    have O_ := hide ((uh O).kept hg9 (fun e => (uh NM).no_obj (uh O) (Option.some.inj e)))
    have V_ := hide ((uh V).kept hg9 (fun e => (uh NM).no_obj (uh V) (Option.some.inj e)))
    have G_ := hide ((uh G).kept hg9 (fun e => (uh NM).no_obj (uh G) (Option.some.inj e)))
    have OR1_ : Hid (OwnBr B w9 (.slice (some ⟨g1, 0, none⟩) n c1) (L)) := g_aside (uh OR1) hg9 (fun q hq he => by cases hq; exact (uh NM).no_row (uh OR1) he)
    have EB1_ : Hid (EachB B w9 (L)) := fun x hx => ⟨g_aside ((uh EB1) x hx).1 hg9 (fun q hq he => by cases hq; exact (uh NM).no_row ((uh EB1) x hx).1 he), g_aside ((uh EB1) x hx).2 hg9 (fun q hq he => by cases hq; exact (uh NM).no_row ((uh EB1) x hx).2 he)⟩
    have OP_ : Hid (OwnPt w.heap.size w9 ((.slice (some ⟨gOP4, 0, none⟩) (Q ++ [wor2.heap.size]).length capOP4)) (Q ++ [wor2.heap.size])) := g_aside (uh OP) hg9 (fun q hq he => by cases hq; exact (uh NM).no_row (uh OP) he)
    have OB_ : Hid (ObjsB w.heap.size w9 (P ++ [((⟨b, .slice amC b.mails.length cmC, .slice atC b.tombs.length ctC⟩ : Lb), wor2.heap.size)])) := (uh OB).mapped (uh NM) hg9
    have BB_ : Hid (Below w.heap.size w w9) := (uh BB).grown hg9 (uh BB).size (fun q hq => by cases hq; exact (uh NM).2.1)
    have sz106 := hide (hg9.size); replace A := A_; clear A_; replace R := R_; clear R_; replace O := O_; clear O_; replace V := V_; clear V_; replace G := G_; clear G_; replace OR1 := OR1_; clear OR1_; replace EB1 := EB1_; clear EB1_; replace OP := OP_; clear OP_; replace OB := OB_; clear OB_; replace BB := BB_; clear BB_; clear NM HG9 hg9; have NM := NM9; clear NM9
    go_roundw
    case rel => rw [uh HREL]; exact ⟨k + 1, _, _, _, _, _, by omega, by go_num, uh HPK9, uh HPQ9, uh HPA9, by have h1 := uh HSP; have h2 := uh LS9; rw [List.length_append]; simp only [List.length_cons, List.length_nil]; omega, uh HFS9, uh A, uh R, uh O, uh OR1, uh EB1, uh OP, uh OB, uh NM, uh BB⟩
    case measure => simp [intOf]; omega
  ·obtain rfl : k = n := by omega
   have A := hide oA; have R := hide oR; have O := hide oO; have OP := hide op; have OB := hide ob; have NM := hide nm; have BB := hide hbel; clear oA oR oO o1 oe op ob nm hbel hlt hk; have Ac0_3 := (uh A).cell 0 rfl; have Ac1_3 := (uh A).cell 1 rfl; have Oc0_4 := (uh O).cell 0 rfl; have Oc1_4 := (uh O).cell 1 rfl; have Oc2_4 := (uh O).cell 2 rfl; have Rf0 := (uh R).frozen 0; have Rf1 := (uh R).frozen 1; have Rf2 := (uh R).frozen 2; have Re0 := (uh R).cell 0 rfl; have Re1 := (uh R).cell 1 rfl; have Re2 := (uh R).cell 2 rfl; have F := hide (fill3 (uh R) (.slice av Q.length cv) (.map (some (wo2.heap.size))) (.int .i64 s.valid))
   obtain ⟨U, hU⟩ : ∃ U, U = (((wo.setCell ⟨wo1.heap.size, 0, none⟩ (.slice av Q.length cv)).setCell ⟨wo1.heap.size, 1, none⟩ (.map (some (wo2.heap.size)))).setCell ⟨wo1.heap.size, 2, none⟩ (.int .i64 s.valid)) := ⟨_, rfl⟩
   have F9 := uh F
   rw [← hU] at F9
   have NM9 : Hid (Named w.heap.size U (wo2.heap.size) S) := by show Named _ _ _ _; rw [hU]; exact (((uh NM).set (uh R) _).set ((uh R).set 0 _) _).set (((uh R).set 0 _).set 1 _) _
   have EU := hU.symm; clear F hU; have v0 := F9.obj.cell 0 rfl; have v1 := F9.obj.cell 1 rfl; have v2 := F9.obj.cell 2 rfl; have F := hide F9; clear F9
   go_wp2_with (refine bodyPost_ret (by simp [results, Try.results21, go_sem, v0, v1, v2]; try rfl) rfl ?_)
   clear EU; have F := uh F
   refine ⟨_, _, P, ?_, rfl, ⟨?_, (uh OB).filled (uh R) F (by decide) (by decide) (by decide), uh HPA, S, uh NM9, uh HSP, uh HFS⟩, F.below loR (uh BB)⟩
   ·rw [uh HPK, List.take_of_length_le (by have := uh HN; omega)]
   ·rw [uh HPQ]; exact F.row (by decide) (uh OP)
end Go.Proofs.Ytanapiaobpoebaa

namespace Go.Proofs.Ytanapiaobpoebaa
open Go.RowKit
open Plain
set_option linter.unusedVariables false
set_option linter.unusedSimpArgs false

set_option maxHeartbeats 8000000 in
set_option maxRecDepth 100000 in
theorem stored_any (v : Value) (mb : Nat) (valid : Int) (B : Nat) (P : List (Lb × Nat)) (w : World) (hl : P.length ≤ 1048578) (hp : OwnPt B w v (P.map (·.2))) (ho : ObjsB B w P) :
  Calls Try.prog 24 #[.agg #[v, .map (some mb), .int .i64 valid]] w fun e w' => ∃ v', e = .returned (.agg #[v', .int .i64 valid]) ∧ OwnBr w.heap.size w' v' (P.map (·.1)) ∧ Below w.heap.size w w' := by
 obtain ⟨iX, hX, hX0, hX1, hX2⟩ := info_parts Try.infoBox
 obtain ⟨a1, c1, rfl⟩ := g_shape hp
 obtain ⟨n, hn⟩ : ∃ n, n = P.length := ⟨_, rfl⟩
 rw [List.length_map, ← hn]
 rw [← hn] at hl
 have OP : Hid (OwnPt B w (.slice a1 n c1) (P.map (·.2))) := by show OwnPt _ _ _ _; rw [List.length_map, ← hn] at hp; exact hp
 have OB := hide ho
 have PLT := hide (fun p (hp : p ∈ P) => (ho p hp).2.1.lt)
 have HN := hide hn; clear hp ho hn; have BB := hide (Below.refl w.heap.size w)
 obtain ⟨wt1, hA⟩ : ∃ X, X = w.alloc (.cells ([.slice a1 n c1, .map (some mb), .int .i64 valid] : List Value).toArray 50) := ⟨_, rfl⟩
 have Ax : HasObj wt1 w.heap.size 50 [.slice a1 n c1, .map (some mb), .int .i64 valid] := by rw [hA]; exact HasObj.new _ _ _
 have hbn : Below w.heap.size w wt1 := by rw [hA]; exact (Below.refl _ _).alloc (Nat.le_refl _) _
 have loA : w.heap.size ≤ w.heap.size := (uh BB).size
 have EA := hA.symm; clear hA; replace OP := hide ((uh OP).up hbn); replace OB := hide ((uh OB).up hbn); have sz1 := hide (hbn.size); replace BB := hide (below_y (uh BB) hbn); clear hbn; have A := hide Ax; clear Ax
 obtain ⟨wt2, hR⟩ : ∃ X, X = wt1.alloc (.cells ([.slice none 0 0, .int .i64 0] : List Value).toArray 28) := ⟨_, rfl⟩
 have Rx : HasObj wt2 wt1.heap.size 28 [.slice none 0 0, .int .i64 0] := by rw [hR]; exact HasObj.new _ _ _
 have hbn : Below wt1.heap.size wt1 wt2 := by rw [hR]; exact (Below.refl _ _).alloc (Nat.le_refl _) _
 have neAR : w.heap.size ≠ wt1.heap.size := Nat.ne_of_lt (uh A).lt
 have loR : w.heap.size ≤ wt1.heap.size := (uh BB).size
 have ER := hR.symm; clear hR; replace A := hide ((uh A).ups hbn); replace OP := hide ((uh OP).up hbn); replace OB := hide ((uh OB).up hbn); have sz2 := hide (hbn.size); replace BB := hide (below_y (uh BB) hbn); clear hbn; have R := hide Rx; clear Rx; have Ac0_1 := (uh A).cell 0 rfl; have Ac1_1 := (uh A).cell 1 rfl; have Ac2_1 := (uh A).cell 2 rfl
 obtain ⟨wt3, hO⟩ : ∃ X, X = wt2.alloc (.cells ([.slice none 0 0, .int .i64 valid] : List Value).toArray 28) := ⟨_, rfl⟩
 have Ox : HasObj wt3 wt2.heap.size 28 [.slice none 0 0, .int .i64 valid] := by rw [hO]; exact HasObj.new _ _ _
 have hbn : Below wt2.heap.size wt2 wt3 := by rw [hO]; exact (Below.refl _ _).alloc (Nat.le_refl _) _
 have neAO : w.heap.size ≠ wt2.heap.size := Nat.ne_of_lt (uh A).lt
 have neRO : wt1.heap.size ≠ wt2.heap.size := Nat.ne_of_lt (uh R).lt
 have loO : w.heap.size ≤ wt2.heap.size := (uh BB).size
 have EO := hO.symm; clear hO; replace A := hide ((uh A).ups hbn); replace R := hide ((uh R).ups hbn); replace OP := hide ((uh OP).up hbn); replace OB := hide ((uh OB).up hbn); have sz3 := hide (hbn.size); replace BB := hide (below_y (uh BB) hbn); clear hbn; have O := hide Ox; clear Ox; have Ac0_2 := (uh A).cell 0 rfl; have Ac1_2 := (uh A).cell 1 rfl; have Ac2_2 := (uh A).cell 2 rfl
 go_enter Try.func24, Try.ntmps24
 go_wp2
 clear Ac0_1 Ac1_1 Ac2_1 Ac0_2 Ac1_2 Ac2_2 EA ER EO
 go_loopw [12] (fun i wr => ∃ (k : Nat) (L2 : List Lb) (a2 : Option Addr) (c2 : Nat), k ≤ n ∧ i = .int .i64 k ∧ L2 = (P.take k).map (·.1) ∧ HasObj wr (wt1.heap.size) 28 [.slice none 0 0, .int .i64 0] ∧ HasObj wr (wt2.heap.size) 28 [.slice a2 L2.length c2, .int .i64 valid] ∧ OwnPt B wr (.slice a1 n c1) (P.map (·.2)) ∧ ObjsB B wr P ∧ OwnBr w.heap.size wr (.slice a2 L2.length c2) L2 ∧ Below w.heap.size w wr) (fun i _ => n - (intOf i).toNat)
 case atStart => exact ⟨0, [], none, 0, Nat.zero_le _, rfl, by simp, uh R, uh O, uh OP, uh OB, World.ownsRow_nil _ _ _ _, uh BB⟩
 clear OP OB BB A R O
 case round =>
  obtain ⟨k, L2, a2, c2, hk, rfl, hL2, oR, oO, op, ob, o2, hbel⟩ := hrel
  obtain ⟨wo, hwo⟩ : ∃ wo, wo = wr := ⟨_, rfl⟩
  subst hwo
  have HL2 := hide hL2; clear hL2
  by_cases hlt : k < n
  ·have hkl : k < P.length := by rw [← uh HN]; exact hlt
   have hx : P[k]? = some P[k] := List.getElem?_eq_getElem hkl
   have hmx := List.getElem_mem hkl
   have hxg : (P.map (·.2))[k]? = some P[k].2 := by rw [List.getElem?_map, hx]; rfl
   have TK := hide (take_snoc hx)
   obtain ⟨q1, c9, e3, pc⟩ := pt_read op hxg
   have e5 := (Value.slice.inj e3).1; clear e3
   subst e5
   generalize P[k] = x at *
   obtain ⟨⟨b, m, t⟩, g1⟩ := x
   obtain ⟨am, cm, ee1⟩ := g_shape (ob _ hmx).2.2.1
   obtain ⟨at1, ct1, ee2⟩ := g_shape (ob _ hmx).2.2.2
   simp only at ee1 ee2 pc hxg
   subst ee1 ee2
   have R := hide oR; have O := hide oO; have OP := hide op; have OB := hide ob; have OR2 := hide o2; have BB := hide hbel; have M1 := hide hmx; have XG := hide hxg
   have LK : Hid (L2.length = k) := by show _ = _; rw [uh HL2, List.length_map, List.length_take]; omega
   clear oR oO op ob o2 hbel hx hmx hxg
   have i1 : (0 : Int) ≤ (k : Int) := by omega
   have i2 : (k : Int) < (n : Int) := by omega
   have Oc0_3 := (uh O).cell 0 rfl; have Oc1_3 := (uh O).cell 1 rfl
   go_wp2
   clear Oc0_3 Oc1_3; clear pc
   refine lateBegin (S := fun w' => w'.cell? ⟨wt2.heap.size, 0, none⟩ = some (.slice a2 L2.length c2) ∧ w'.cell? ⟨g1, 0, none⟩ = some (.string b.name) ∧ w'.cell? ⟨g1, 1, none⟩ = some (.int .i64 b.valid) ∧ w'.cell? ⟨g1, 2, none⟩ = some (.int .i64 b.next) ∧ w'.cell? ⟨g1, 3, none⟩ = some (.int .i64 b.mod) ∧ w'.cell? ⟨g1, 4, none⟩ = some (.slice am b.mails.length cm) ∧ w'.cell? ⟨g1, 5, none⟩ = some (.slice at1 b.tombs.length ct1) ∧ w'.cell? ⟨g1, 6, none⟩ = some (.int .i64 b.hor)) 8 (by kernel_rfl) (⟨(uh O).cell 0 rfl, ((uh OB) _ (uh M1)).2.1.cell 0 rfl, ((uh OB) _ (uh M1)).2.1.cell 1 rfl, ((uh OB) _ (uh M1)).2.1.cell 2 rfl, ((uh OB) _ (uh M1)).2.1.cell 3 rfl, ((uh OB) _ (uh M1)).2.1.cell 4 rfl, ((uh OB) _ (uh M1)).2.1.cell 5 rfl, ((uh OB) _ (uh M1)).2.1.cell 6 rfl⟩) (fun hHeld => ?_)
   replace R := hide ((uh R).drew); replace O := hide ((uh O).drew); replace OP := hide ((uh OP).drew); replace OB := hide ((uh OB).drew); replace OR2 := hide ((uh OR2).drew); replace BB := hide ((uh BB).drew)
   have sz101 : Hid (wo.heap.size ≤ wo.drew.heap.size) := Nat.le_refl _
   refine lt 0 16 ?_; refine lt 1 17 ?_; refine lt 2 18 ?_; refine lt 3 19 ?_; refine lt 4 20 ?_
   refine lateStep 5 (by kernel_rfl) rfl (by rfl) (fun K hK => ?_)
   go_simp
   have hA : Below wo.drew.heap.size wo.drew (wo.drew.alloc (.cells ((lbC (⟨b, .slice am b.mails.length cm, .slice at1 b.tombs.length ct1⟩ : Lb)) : List Value).toArray 42)) := (Below.refl _ _).alloc (Nat.le_refl _) _
   replace R := hide ((uh R).ups hA); replace O := hide ((uh O).ups hA); replace OP := hide ((uh OP).up hA); replace OB := hide ((uh OB).up hA); replace OR2 := hide ((uh OR2).up hA); have sz102 := hide (hA.size); replace BB := hide (below_y (uh BB) hA); clear hA
   refine hK.out _ _ (⟨(uh O).cell 0 rfl, ((uh OB) _ (uh M1)).2.1.cell 0 rfl, ((uh OB) _ (uh M1)).2.1.cell 1 rfl, ((uh OB) _ (uh M1)).2.1.cell 2 rfl, ((uh OB) _ (uh M1)).2.1.cell 3 rfl, ((uh OB) _ (uh M1)).2.1.cell 4 rfl, ((uh OB) _ (uh M1)).2.1.cell 5 rfl, ((uh OB) _ (uh M1)).2.1.cell 6 rfl⟩) (fun hHeld2 => ?_)
   clear hK K hHeld; have hHeld := hHeld2; clear hHeld2
   try simp only [Act.put, p1, p2, p3]
   have oa := uh OR2; have ldl := (uh BB).size
   refine lateStep 6 (by kernel_rfl) rfl (by rfl) (fun K hK => ?_)
   refine wp_append_lies _ (.tmp 17) (.tmp 21) 26 rfl (w.heap.size) 42 iX _ 7 96 Try.underlying26 hX hX0 hX1 hX2 rfl (by decide) (.slice a2 L2.length c2) _ _ rfl oa ⟨wo.drew.heap.size, 0, none⟩ 1 1 (lbC (⟨b, .slice am b.mails.length cm, .slice at1 b.tombs.length ct1⟩ : Lb)) rfl rfl (newsC _ _) ?c2 (by decide) ?c3 ?c4 ?c5 (wo.drew.heap.size + 1) (by simp) ?_
   case c2 => intro u hu; simp [lbC] at hu; rcases hu with rfl | rfl | rfl | rfl | rfl | rfl | rfl <;> rfl
   case c3 => unfold maxLen; have := uh LK; omega
   case c4 => have := uh LK; omega
   case c5 => have q1_ := (uh BB).size; have sz101_ := uh sz101; have sz102_ := uh sz102; (try simp at q1_); (try simp); omega
   intro gtr1 captr1 wtr1 hown hgr hat hlt_
   have R_ := hide ((uh R).kept hgr (fun e => (uh R).not_row (by decide) oa e.symm))
   have O_ := hide ((uh O).kept hgr (fun e => (uh O).not_row (by decide) oa e.symm))
   have OP_ : Hid (OwnPt B wtr1 (.slice (some ⟨q1, 0, none⟩) n c1) (P.map (·.2))) := g_aside (uh OP) hgr (fun x hx => rows_apart oa (uh OP) (by decide) x hx)
   have OB_ : Hid (ObjsB B wtr1 (P)) := (uh OB).beyond (uh PLT) oa (Nat.le_refl _) hgr (by decide) (by decide)
   have OR2_ : Hid (OwnBr (w.heap.size) wtr1 (.slice (some ⟨gtr1, 0, none⟩) (L2.length + 1) captr1) (L2 ++ [(⟨b, .slice am b.mails.length cm, .slice at1 b.tombs.length ct1⟩ : Lb)])) := by exact OwnBr.snoc hown
   have BB_ : Hid (Below w.heap.size w wtr1) := (uh BB).grown hgr (uh BB).size (fun b hb => by have q2_ := (World.ownsRow.lt oa b hb).1; have sz101_ := uh sz101; have sz102_ := uh sz102; omega)
   have sz103 : Hid ((wo.drew.alloc (.cells ((lbC (⟨b, .slice am b.mails.length cm, .slice at1 b.tombs.length ct1⟩ : Lb)) : List Value).toArray 42)).heap.size ≤ wtr1.heap.size) := hgr.size
   replace R := R_; clear R_; replace O := O_; clear O_; replace OP := OP_; clear OP_; replace OB := OB_; clear OB_; replace OR2 := OR2_; clear OR2_; replace BB := BB_; clear BB_; clear hown hgr hat hlt_ oa ldl
   refine hK.out _ _ (⟨(uh O).cell 0 rfl, ((uh OB) _ (uh M1)).2.1.cell 0 rfl, ((uh OB) _ (uh M1)).2.1.cell 1 rfl, ((uh OB) _ (uh M1)).2.1.cell 2 rfl, ((uh OB) _ (uh M1)).2.1.cell 3 rfl, ((uh OB) _ (uh M1)).2.1.cell 4 rfl, ((uh OB) _ (uh M1)).2.1.cell 5 rfl, ((uh OB) _ (uh M1)).2.1.cell 6 rfl⟩) (fun hHeld2 => ?_)
   clear hK K hHeld; have hHeld := hHeld2; clear hHeld2
   try simp only [Act.put, p1, p2, p3]
   refine lateStep 7 (by kernel_rfl) rfl (by rfl) (fun K hK => ?_)
   go_simp
   refine hK.out _ _ (⟨(uh O).cell 0 rfl, ((uh OB) _ (uh M1)).2.1.cell 0 rfl, ((uh OB) _ (uh M1)).2.1.cell 1 rfl, ((uh OB) _ (uh M1)).2.1.cell 2 rfl, ((uh OB) _ (uh M1)).2.1.cell 3 rfl, ((uh OB) _ (uh M1)).2.1.cell 4 rfl, ((uh OB) _ (uh M1)).2.1.cell 5 rfl, ((uh OB) _ (uh M1)).2.1.cell 6 rfl⟩) (fun hHeld2 => ?_)
   clear hK K hHeld; have hHeld := hHeld2; clear hHeld2
   try simp only [Act.put, p1, p2, p3]
   have Ofz0_4 := (uh O).frozen 0; have Ocz0_4 := (uh O).cell 0 rfl
   obtain ⟨wtr2, hst⟩ : ∃ X, X = wtr1.setCell ⟨wt2.heap.size, 0, none⟩ (.slice (some ⟨gtr1, 0, none⟩) (L2.length + 1) captr1) := ⟨_, rfl⟩
   have OP_ : Hid (OwnPt B wtr2 (.slice (some ⟨q1, 0, none⟩) n c1) (P.map (·.2))) := by show OwnPt _ _ _ _; rw [hst]; exact (uh O).row (j := 0) (by decide) (uh OP) _
   have OB_ : Hid (ObjsB B wtr2 (P)) := by show ObjsB _ _ _; rw [hst]; exact (uh OB).set (j := 0) (uh O) (by decide) (by decide) (by decide) _
   have OR2_ : Hid (OwnBr w.heap.size wtr2 (.slice (some ⟨gtr1, 0, none⟩) (L2.length + 1) captr1) (L2 ++ [(⟨b, .slice am b.mails.length cm, .slice at1 b.tombs.length ct1⟩ : Lb)])) := by show OwnBr _ _ _ _; rw [hst]; exact (uh O).row (j := 0) (by decide) (uh OR2) _
   have R_ := hide ((uh R).other (j := 0) neRO (.slice (some ⟨gtr1, 0, none⟩) (L2.length + 1) captr1))
   rw [← hst] at R_
   have O_ := hide ((uh O).set 0 (.slice (some ⟨gtr1, 0, none⟩) (L2.length + 1) captr1))
   rw [← hst] at O_
   have BB_ := hide ((uh BB).setCell (p := ⟨wt2.heap.size, 0, none⟩) (show w.heap.size ≤ wt2.heap.size from loO) (.slice (some ⟨gtr1, 0, none⟩) (L2.length + 1) captr1))
   rw [← hst] at BB_
   have sz104 : Hid (wtr1.heap.size ≤ wtr2.heap.size) := by show _ ≤ _; rw [hst]; simp
   replace OP := OP_; clear OP_; replace OB := OB_; clear OB_; replace OR2 := OR2_; clear OR2_; replace R := R_; clear R_; replace O := O_; clear O_; replace BB := BB_; clear BB_; have Est104 := hst.symm; clear hst
   refine lateLast 8 (by decide) (by kernel_rfl) rfl (by rfl) (fun K hK => ?_)
   go_simp
   refine hK.out _ _ ?_
   clear hK K hHeld
   try simp only [Act.put, p1, p2, p3]
   try rw [Est104]
   clear Ofz0_4 Ocz0_4 Est104
   refine lateDone (by kernel_rfl) ?_ _
   have e9 : L2.length + 1 = (L2 ++ [(⟨b, .slice am b.mails.length cm, .slice at1 b.tombs.length ct1⟩ : Lb)]).length := by simp
   rw [e9] at O OR2
   clear e9
   have NX : Hid (L2 ++ [(⟨b, .slice am b.mails.length cm, .slice at1 b.tombs.length ct1⟩ : Lb)] = (P.take (k + 1)).map (·.1)) := by show _ = _; rw [uh TK, List.map_append, uh HL2]; rfl
   go_wp2
   go_roundw
   case rel => exact ⟨k + 1, _, _, _, by omega, by go_num, uh NX, uh R, uh O, uh OP, uh OB, uh OR2, uh BB⟩
   case measure => simp [intOf]; omega
  ·obtain rfl : k = n := by omega
   have R := hide oR; have O := hide oO; have OR2 := hide o2; have BB := hide hbel; clear oR oO op ob o2 hbel hlt hk; have Oc0_3 := (uh O).cell 0 rfl; have Oc1_3 := (uh O).cell 1 rfl; have Rf0 := (uh R).frozen 0; have Rf1 := (uh R).frozen 1; have Re0 := (uh R).cell 0 rfl; have Re1 := (uh R).cell 1 rfl; have F := hide (fill2 (uh R) (.slice a2 L2.length c2) (.int .i64 valid))
   obtain ⟨U, hU⟩ : ∃ U, U = ((wo.setCell ⟨wt1.heap.size, 0, none⟩ (.slice a2 L2.length c2)).setCell ⟨wt1.heap.size, 1, none⟩ (.int .i64 valid)) := ⟨_, rfl⟩
   have F9 := uh F
   rw [← hU] at F9
   have EU := hU.symm; clear F hU; have v0 := F9.obj.cell 0 rfl; have v1 := F9.obj.cell 1 rfl; have F := hide F9; clear F9
   go_wp2_with (refine bodyPost_ret (by simp [results, Try.results24, go_sem, v0, v1]; try rfl) rfl ?_)
   clear EU; have F := uh F
   refine ⟨_, rfl, ?_, F.below loR (uh BB)⟩
   have h9 := uh HL2
   rw [List.take_of_length_le (by have := uh HN; omega)] at h9
   rw [← h9]
   exact F.row (by decide) (uh OR2)
theorem OwnSt.filled {B r : Nat} {W U : World} {v : Value} {l : List Bx} {t : TypeId} {us : List Value} (h : OwnSt B W v l) (F : Filled W r t us U) (h0 : t ≠ 42) (h1 : t ≠ 76) (h2 : t ≠ 79) : OwnSt B U v l := by
 obtain ⟨L, e, o, ap⟩ := h
 exact ⟨L, e, ⟨F.row h0 o.row, fun x hx => ⟨F.row h1 (o.each x hx).1, F.row h2 (o.each x hx).2⟩⟩, ap⟩
theorem OpenSt.based {B B' : Nat} {w : World} {v : Value} {mb : Nat} {P : List (Lb × Nat)} (h : OpenSt B w v mb P) (hB : B' ≤ B) : OpenSt B' w v mb P := by
 obtain ⟨S, h1, h2, h3⟩ := h.map
 exact ⟨h.row.based hB, h.objs.based hB, h.apart, S, h1.based hB, h2, h3⟩
theorem OpenSt.own {B : Nat} {w w' : World} {v v' : Value} {mb : Nat} {P : List (Lb × Nat)} {l : List Bx} (h : OpenSt B w v mb P) (hP : P.map (·.1.b) = l) (hr : OwnBr w.heap.size w' v' (P.map (·.1))) (hb : Below w.heap.size w w') (hB : B ≤ w.heap.size) : OwnSt B w' v' l := by
 refine ⟨P.map (·.1), by rw [List.map_map]; exact hP, ⟨hr.based hB, fun x hx => ?_⟩, ?_⟩
 ·obtain ⟨p, hp, rfl⟩ := List.mem_map.1 hx
  exact (h.objs p hp).2.2.up hb
 ·rw [List.pairwise_map]
  exact h.apart.imp fun h => h.2
theorem open_len {P : List (Lb × Nat)} {s : Sx} (h : P.map (·.1.b) = s.boxes) (hf : FitSt s) : P.length ≤ 1048578 := by have := congrArg List.length h; rw [List.length_map] at this; have := hf.len; omega
set_option maxHeartbeats 4000000 in
set_option maxRecDepth 100000 in
theorem copiedStore_any (s : Sx) (v : Value) (B : Nat) (w : World) (hf : FitSt s) (h : ReadSt B w v s.boxes) :
  Calls Try.prog 20 #[.agg #[v, .int .i64 s.valid]] w fun e w' => ∃ v', e = .returned (.agg #[v', .int .i64 s.valid]) ∧ OwnSt w.heap.size w' v' s.boxes ∧ Below w.heap.size w w' := by
 obtain ⟨a1, c1, rfl⟩ := h.shape
 have S1 := hide h; have FT := hide hf; clear h hf; have BB := hide (Below.refl w.heap.size w)
 obtain ⟨wk1, hA⟩ : ∃ X, X = w.alloc (.cells ([.slice a1 s.boxes.length c1, .int .i64 s.valid] : List Value).toArray 28) := ⟨_, rfl⟩
 have Ax : HasObj wk1 w.heap.size 28 [.slice a1 s.boxes.length c1, .int .i64 s.valid] := by rw [hA]; exact HasObj.new _ _ _
 have hbn : Below w.heap.size w wk1 := by rw [hA]; exact (Below.refl _ _).alloc (Nat.le_refl _) _
 have loA : w.heap.size ≤ w.heap.size := (uh BB).size
 have EA := hA.symm; clear hA; replace S1 := hide ((uh S1).up hbn); have sz1 := hide (hbn.size); replace BB := hide (below_y (uh BB) hbn); clear hbn; have A := hide Ax; clear Ax
 obtain ⟨wk2, hR⟩ : ∃ X, X = wk1.alloc (.cells ([.slice none 0 0, .int .i64 0] : List Value).toArray 28) := ⟨_, rfl⟩
 have Rx : HasObj wk2 wk1.heap.size 28 [.slice none 0 0, .int .i64 0] := by rw [hR]; exact HasObj.new _ _ _
 have hbn : Below wk1.heap.size wk1 wk2 := by rw [hR]; exact (Below.refl _ _).alloc (Nat.le_refl _) _
 have neAR : w.heap.size ≠ wk1.heap.size := Nat.ne_of_lt (uh A).lt
 have loR : w.heap.size ≤ wk1.heap.size := (uh BB).size
 have ER := hR.symm; clear hR; replace A := hide ((uh A).ups hbn); replace S1 := hide ((uh S1).up hbn); have sz2 := hide (hbn.size); replace BB := hide (below_y (uh BB) hbn); clear hbn; have R := hide Rx; clear Rx; have Ac0_1 := (uh A).cell 0 rfl; have Ac1_1 := (uh A).cell 1 rfl
 go_enter Try.func20, Try.ntmps20
 go_wp2_with fail; clear Ac0_1 Ac1_1 EA ER
 have LOP : Hid (w.heap.size ≤ wk2.heap.size) := (uh BB).size
 refine (openedStore_any s _ _ _ (uh FT) (uh S1)).mono ?_
 rintro e wk3 ⟨vP, mbP, P, hPP, rfl, oS, hb⟩
 obtain ⟨aP, cP, rfl⟩ := g_shape oS.row
 rw [List.length_map] at oS ⊢
 have OSP_ := hide (oS.based (uh LOP)); have HPP := hide hPP; clear oS hPP; replace A := hide ((uh A).ups hb); replace R := hide ((uh R).ups hb); replace S1 := hide ((uh S1).up hb); have sz3 := hide (hb.size); replace BB := hide (below_y (uh BB) hb); clear hb; have OSP := OSP_; clear OSP_
 replace LOP : Hid (w.heap.size ≤ wk3.heap.size) := (uh BB).size
 go_wp2_with fail
 refine (stored_any _ mbP s.valid _ P _ (open_len (uh HPP) (uh FT)) (uh OSP).row (uh OSP).objs).mono ?_
 rintro e wk4 ⟨v9, rfl, o9, hb⟩
 obtain ⟨a9, c9, rfl⟩ := g_shape o9
 have OW_ := hide ((uh OSP).own (uh HPP) o9 hb (uh LOP)); clear o9; clear OSP; replace A := hide ((uh A).ups hb); replace R := hide ((uh R).ups hb); replace S1 := hide ((uh S1).up hb); have sz4 := hide (hb.size); replace BB := hide (below_y (uh BB) hb); clear hb; have OW := OW_; clear OW_
 have HLP : Hid ((P.map (·.1)).length = s.boxes.length) := by show _ = _; rw [List.length_map, ← uh HPP, List.length_map]
 rw [uh HLP] at OW ⊢
 have Rf0 := (uh R).frozen 0; have Rf1 := (uh R).frozen 1; have Re0 := (uh R).cell 0 rfl; have Re1 := (uh R).cell 1 rfl; have F := hide (fill2 (uh R) (.slice a9 s.boxes.length c9) (.int .i64 s.valid))
 obtain ⟨U, hU⟩ : ∃ U, U = ((wk4.setCell ⟨wk1.heap.size, 0, none⟩ (.slice a9 s.boxes.length c9)).setCell ⟨wk1.heap.size, 1, none⟩ (.int .i64 s.valid)) := ⟨_, rfl⟩
 have F9 := uh F
 rw [← hU] at F9
 have EU := hU.symm; clear F hU; have v0 := F9.obj.cell 0 rfl; have v1 := F9.obj.cell 1 rfl; have F := hide F9; clear F9
 go_wp2_with (refine bodyPost_ret (by simp [results, Try.results20, go_sem, v0, v1]; try rfl) rfl ?_)
 clear EU; have F := uh F
 exact ⟨_, rfl, (uh OW).filled F (by decide) (by decide) (by decide), F.below loR (uh BB)⟩
theorem found_at {P : List (Lb × Nat)} {s : Sx} {n : ByteArray} {g : Nat} (hP : P.map (·.1.b) = s.boxes) (hf : findB P n = some g) : ∃ k x, P[k]? = some (x, g) ∧ s.boxes[k]? = some x.b ∧ sameN n x.b = true ∧ (∀ y ∈ s.boxes.take k, sameN n y = false) ∧ boxAt s n = some x.b := by
 obtain ⟨k, ⟨x, g'⟩, h1, h2, h3, h4⟩ := findB_some hf
 simp only at h2
 subst h2
 have h5 : s.boxes[k]? = some x.b := by rw [← hP, List.getElem?_map, h1]; rfl
 have h6 : ∀ y ∈ s.boxes.take k, sameN n y = false := fun y hy => by
  rw [← hP, ← List.map_take] at hy
  obtain ⟨z, hz, rfl⟩ := List.mem_map.1 hy
  exact h4 z hz
 exact ⟨k, x, h1, h5, h3, h6, boxAt_first h5 h3 h6⟩
theorem found_no {P : List (Lb × Nat)} {s : Sx} {n : ByteArray} (hP : P.map (·.1.b) = s.boxes) (hf : findB P n = none) : boxAt s n = none := boxAt_none fun y hy => by
 rw [← hP] at hy
 obtain ⟨z, hz, rfl⟩ := List.mem_map.1 hy
 exact findB_none hf z hz
end Go.Proofs.Ytanapiaobpoebaa

namespace Go.Proofs.Ytanapiaobpoebaa
open Go.RowKit
open Plain
set_option linter.unusedVariables false
set_option linter.unusedSimpArgs false

theorem set_cases {P : List (Lb × Nat)} {k : Nat} {q p : Lb × Nat} (h : p ∈ P.set k q) : p = q ∨ ∃ i, i ≠ k ∧ P[i]? = some p := by
 obtain ⟨i, hi⟩ := List.mem_iff_getElem?.1 h
 rw [List.getElem?_set] at hi
 split at hi
 ·split at hi
  ·exact .inl (Option.some.inj hi).symm
  ·cases hi
 ·exact .inr ⟨i, fun e => by rename_i hne; exact hne e.symm, hi⟩
theorem aside_at {P : List (Lb × Nat)} (hap : P.Pairwise AsideB) {i k : Nat} {p q : Lb × Nat} (hi : P[i]? = some p) (hk : P[k]? = some q) (hne : i ≠ k) : p.2 ≠ q.2 ∧ ApartB p.1 q.1 := by
 obtain ⟨h1, rfl⟩ := List.getElem?_eq_some_iff.1 hi
 obtain ⟨h2, rfl⟩ := List.getElem?_eq_some_iff.1 hk
 rcases Nat.lt_or_gt_of_ne hne with h | h
 ·exact List.pairwise_iff_getElem.1 hap i k h1 h2 h
 ·have := List.pairwise_iff_getElem.1 hap k i h2 h1 h
  exact ⟨this.1.symm, this.2.symm⟩
theorem ObjsB.write {B : Nat} {W U : World} {P : List (Lb × Nat)} {k g : Nat} {x y : Lb} (h : ObjsB B W P) (hap : P.Pairwise AsideB) (hk : P[k]? = some (x, g)) (F : Filled W g 42 (lbC y) U) (hy : OwnBx B W y.m y.t y.b) : ObjsB B U (P.set k (y, g)) := by
 intro p hp
 rcases set_cases hp with rfl | ⟨i, hne, hi⟩
 ·exact ⟨(h _ (List.mem_of_getElem? hk)).1, F.obj, ⟨F.row (by decide) hy.1, F.row (by decide) hy.2⟩⟩
 ·have hm := h p (List.mem_of_getElem? hi)
  exact ⟨hm.1, F.other (aside_at hap hi hk hne).1 hm.2.1, ⟨F.row (by decide) hm.2.2.1, F.row (by decide) hm.2.2.2⟩⟩
theorem own_of {B : Nat} {w w' : World} {v' : Value} {P : List (Lb × Nat)} {l : List Bx} (ho : ObjsB B w P) (hap : P.Pairwise AsideB) (hP : P.map (·.1.b) = l) (hr : OwnBr w.heap.size w' v' (P.map (·.1))) (hb : Below w.heap.size w w') (hB : B ≤ w.heap.size) : OwnSt B w' v' l := by
 refine ⟨P.map (·.1), by rw [List.map_map]; exact hP, ⟨hr.based hB, fun x hx => ?_⟩, ?_⟩
 ·obtain ⟨p, hp, rfl⟩ := List.mem_map.1 hx
  exact (ho p hp).2.2.up hb
 ·rw [List.pairwise_map]
  exact hap.imp fun h => h.2
end Go.Proofs.Ytanapiaobpoebaa
