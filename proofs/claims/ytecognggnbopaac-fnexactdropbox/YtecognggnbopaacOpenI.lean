/- The program's openedStore. Made by gen_stores.py. -/
import Derived.Test.YtecognggnbopaacOpenRow
import Derived.Test.YtecognggnbopaacCopyI
import Derived.Test.YtecognggnbopaacRegA
import Derived.Test.YtecognggnbopaacBoxI
namespace Go.Proofs.Ytecognggnbopaac
open Go.RowKit
open Plain
set_option linter.unusedVariables false
set_option linter.unusedSimpArgs false

theorem fill3 {W : World} {r : Nat} {t : TypeId} {v0 v1 v2 : Value} (h : HasObj W r t [v0, v1, v2]) (u0 u1 u2 : Value) :
    Filled W r t [u0, u1, u2] (((W.setCell ⟨r, 0, none⟩ u0).setCell ⟨r, 1, none⟩ u1).setCell ⟨r, 2, none⟩ u2) := by
  have h1 := h.set 0 u0
  have h2 := h1.set 1 u1
  have h3 := h2.set 2 u2
  refine ⟨h3, fun hne hb => ?_, fun hte hr => ?_, fun hn hb => ?_, by simp⟩
  · exact (((hb.other (j := 0) hne u0).other (j := 1) hne u1).other (j := 2) hne u2)
  · exact (h2.row (j := 2) hte (h1.row (j := 1) hte (h.row (j := 0) hte hr u0) u1) u2)
  · exact (((hb.setCell (p := ⟨r, 0, none⟩) hn u0).setCell (p := ⟨r, 1, none⟩) hn u1).setCell (p := ⟨r, 2, none⟩) hn u2)
set_option maxHeartbeats 8000000 in
set_option maxRecDepth 100000 in
theorem openedStore_any (s : Sx) (v : Value) (B : Nat) (w : World) (hf : FitSt s) (h : ReadSt B w v s.boxes) :
    Calls Try.prog 30 #[.agg #[v, .int .i64 s.valid]] w fun e w' => ∃ v' mb P, P.map (·.1.b) = s.boxes ∧ e = .returned (.agg #[v', .map (some mb), .int .i64 s.valid]) ∧ OpenSt w.heap.size w' v' mb P ∧ Below w.heap.size w w' := by
  obtain ⟨iP, hP, hP0, hP1, hP2⟩ := info_parts Try.infoPBox
  have hmm := @run_makeMap Try.prog
  obtain ⟨L, hL, h⟩ := h
  obtain ⟨a1, c1, rfl⟩ := g_shape h.row
  obtain ⟨n, hn⟩ : ∃ n, n = s.boxes.length := ⟨_, rfl⟩
  have hn1 : L.length = n := by rw [hn, ← hL, List.length_map]
  have hnl := hf.len
  rw [← hn] at hnl
  have S1 := hide h
  rw [hn1] at S1 ⊢
  have FE := hide hf.each
  have HL := hide hL
  have HN := hide hn
  have HN1 := hide hn1
  clear h hL hn hn1 hf
  have OR1 : Hid (OwnBr B w (.slice a1 n c1) L) := (unhide S1).row
  have EB1 : Hid (EachB B w L) := (unhide S1).each
  clear S1
  have BB := hide (Below.refl w.heap.size w)
  obtain ⟨wo1, hA⟩ : ∃ X, X = w.alloc (.cells ([.slice a1 n c1, .int .i64 s.valid] : List Value).toArray 28) := ⟨_, rfl⟩
  have Ax : HasObj wo1 w.heap.size 28 [.slice a1 n c1, .int .i64 s.valid] := by rw [hA]; exact HasObj.new _ _ _
  have hbn : Below w.heap.size w wo1 := by rw [hA]; exact (Below.refl _ _).alloc (Nat.le_refl _) _
  have loA : w.heap.size ≤ w.heap.size := (unhide BB).size
  have EA := hA.symm
  clear hA
  have OR1_ := hide ((unhide OR1).up hbn)
  clear OR1
  have OR1 := OR1_
  clear OR1_
  have EB1_ := hide ((unhide EB1).up hbn)
  clear EB1
  have EB1 := EB1_
  clear EB1_
  have sz1 := hide (hbn.size)
  have BB_ := hide (below_y (unhide BB) hbn)
  clear BB
  have BB := BB_
  clear BB_
  clear hbn
  have A := hide Ax
  clear Ax
  obtain ⟨wo2, hR⟩ : ∃ X, X = wo1.alloc (.cells ([.slice none 0 0, .map none, .int .i64 0] : List Value).toArray 61) := ⟨_, rfl⟩
  have Rx : HasObj wo2 wo1.heap.size 61 [.slice none 0 0, .map none, .int .i64 0] := by rw [hR]; exact HasObj.new _ _ _
  have hbn : Below wo1.heap.size wo1 wo2 := by rw [hR]; exact (Below.refl _ _).alloc (Nat.le_refl _) _
  have neAR : w.heap.size ≠ wo1.heap.size := Nat.ne_of_lt (unhide A).lt
  have loR : w.heap.size ≤ wo1.heap.size := (unhide BB).size
  have ER := hR.symm
  clear hR
  have A_ := hide ((unhide A).ups hbn)
  clear A
  have A := A_
  clear A_
  have OR1_ := hide ((unhide OR1).up hbn)
  clear OR1
  have OR1 := OR1_
  clear OR1_
  have EB1_ := hide ((unhide EB1).up hbn)
  clear EB1
  have EB1 := EB1_
  clear EB1_
  have sz2 := hide (hbn.size)
  have BB_ := hide (below_y (unhide BB) hbn)
  clear BB
  have BB := BB_
  clear BB_
  clear hbn
  have R := hide Rx
  clear Rx
  obtain ⟨wo3, hM⟩ : ∃ X, X = wo2.alloc (.map #[] 0) := ⟨_, rfl⟩
  have NMx : Named w.heap.size wo3 wo2.heap.size [] := by rw [hM]; exact Named.made _ (unhide BB).size
  have hbn : Below wo2.heap.size wo2 wo3 := by rw [hM]; exact (Below.refl _ _).alloc (Nat.le_refl _) _
  have EM := hM.symm
  clear hM
  have A_ := hide ((unhide A).ups hbn)
  clear A
  have A := A_
  clear A_
  have R_ := hide ((unhide R).ups hbn)
  clear R
  have R := R_
  clear R_
  have OR1_ := hide ((unhide OR1).up hbn)
  clear OR1
  have OR1 := OR1_
  clear OR1_
  have EB1_ := hide ((unhide EB1).up hbn)
  clear EB1
  have EB1 := EB1_
  clear EB1_
  have sz3 := hide (hbn.size)
  have BB_ := hide (below_y (unhide BB) hbn)
  clear BB
  have BB := BB_
  clear BB_
  clear hbn
  have NM := hide NMx
  clear NMx
  have Ac0_1 := (unhide A).cell 0 rfl
  have Ac1_1 := (unhide A).cell 1 rfl
  obtain ⟨wo4, hO⟩ : ∃ X, X = wo3.alloc (.cells ([.slice none 0 0, .map (some (wo2.heap.size)), .int .i64 s.valid] : List Value).toArray 61) := ⟨_, rfl⟩
  have Ox : HasObj wo4 wo3.heap.size 61 [.slice none 0 0, .map (some (wo2.heap.size)), .int .i64 s.valid] := by rw [hO]; exact HasObj.new _ _ _
  have hbn : Below wo3.heap.size wo3 wo4 := by rw [hO]; exact (Below.refl _ _).alloc (Nat.le_refl _) _
  have neAO : w.heap.size ≠ wo3.heap.size := Nat.ne_of_lt (unhide A).lt
  have neRO : wo1.heap.size ≠ wo3.heap.size := Nat.ne_of_lt (unhide R).lt
  have loO : w.heap.size ≤ wo3.heap.size := (unhide BB).size
  have EO := hO.symm
  clear hO
  have A_ := hide ((unhide A).ups hbn)
  clear A
  have A := A_
  clear A_
  have R_ := hide ((unhide R).ups hbn)
  clear R
  have R := R_
  clear R_
  have OR1_ := hide ((unhide OR1).up hbn)
  clear OR1
  have OR1 := OR1_
  clear OR1_
  have EB1_ := hide ((unhide EB1).up hbn)
  clear EB1
  have EB1 := EB1_
  clear EB1_
  have NM_ := hide ((unhide NM).up hbn)
  clear NM
  have NM := NM_
  clear NM_
  have sz4 := hide (hbn.size)
  have BB_ := hide (below_y (unhide BB) hbn)
  clear BB
  have BB := BB_
  clear BB_
  clear hbn
  have O := hide Ox
  clear Ox
  have Ac0_2 := (unhide A).cell 0 rfl
  have Ac1_2 := (unhide A).cell 1 rfl
  go_enter Try.func30, Try.ntmps30
  go_wp2
  clear Ac0_1 Ac1_1 Ac0_2 Ac1_2 EA ER EM EO
  obtain ⟨REL, HREL⟩ : ∃ REL : Value → World → Prop, Hid (REL = fun i wr => ∃ (k : Nat) (P : List (Lb × Nat)) (Q : List Nat) (S : List (Fl × Nat)) (av : Option Addr) (cv : Nat), k ≤ n ∧ i = .int .i64 k ∧ P.map (·.1.b) = s.boxes.take k ∧ P.map (·.2) = Q ∧ P.Pairwise AsideB ∧ S.length ≤ P.length ∧ (∀ m, (findS S m).map (·.2) = findB P m) ∧ HasObj wr (w.heap.size) 28 [.slice a1 n c1, .int .i64 s.valid] ∧ HasObj wr (wo1.heap.size) 61 [.slice none 0 0, .map none, .int .i64 0] ∧ HasObj wr (wo3.heap.size) 61 [.slice av Q.length cv, .map (some (wo2.heap.size)), .int .i64 s.valid] ∧ OwnBr B wr (.slice a1 n c1) L ∧ EachB B wr L ∧ OwnPt w.heap.size wr (.slice av Q.length cv) Q ∧ ObjsB w.heap.size wr P ∧ Named w.heap.size wr (wo2.heap.size) S ∧ Below w.heap.size w wr) := ⟨_, rfl⟩
  go_loopw [14] (fun i wr => REL i wr) (fun i _ => n - (intOf i).toNat)
  case atStart => rw [unhide HREL]; exact ⟨0, [], [], [], none, 0, Nat.zero_le _, rfl, by simp, rfl, List.Pairwise.nil, Nat.le_refl _, fun _ => rfl, unhide A, unhide R, unhide O, unhide OR1, unhide EB1, World.ownsRow_nil _ _ _ _, ObjsB.nil _ _, unhide NM, unhide BB⟩
  clear OR1 EB1 BB A R O NM
  case round =>
    rw [unhide HREL] at hrel
    obtain ⟨k, P, Q, S, av, cv, hk, rfl, hPk, hPQ, hPA, hSP, hFS, oA, oR, oO, o1, oe, op, ob, nm, hbel⟩ := hrel
    obtain ⟨wo, hwo⟩ : ∃ wo, wo = wr := ⟨_, rfl⟩
    subst hwo
    have HPK := hide hPk
    have HPQ := hide hPQ
    have HPA := hide hPA
    have HSP := hide hSP
    have HFS := hide hFS
    clear hPk hPQ hPA hSP hFS
    by_cases hlt : k < n
    · have hkl : k < L.length := by rw [unhide HN1]; exact hlt
      have hx : L[k]? = some L[k] := List.getElem?_eq_getElem hkl
      have hbx : s.boxes[k]? = some L[k].b := by rw [← unhide HL, List.getElem?_map, hx]; rfl
      have hmx := List.getElem_mem hkl
      have hfx := unhide FE _ (List.mem_of_getElem? hbx)
      obtain ⟨g1, q1, e3, _, _, _⟩ := br_read o1 hx
      have e5 := (Value.slice.inj e3).1
      clear e3
      subst e5
      generalize L[k] = x at *
      obtain ⟨b, m, t⟩ := x
      simp only at hbx hfx
      obtain ⟨am, cm, ee1⟩ := g_shape (oe _ hmx).1
      obtain ⟨at1, ct1, ee2⟩ := g_shape (oe _ hmx).2
      simp only at ee1 ee2
      subst ee1 ee2
      have A := hide oA
      have R := hide oR
      have O := hide oO
      have OR1 := hide o1
      have EB1 := hide oe
      have OP := hide op
      have OB := hide ob
      have NM := hide nm
      have BB := hide hbel
      have X1 := hide hx
      have XB := hide hbx
      have M1 := hide hmx
      have FX := hide hfx
      have hlo9 : w.heap.size ≤ wo.heap.size := hbel.size
      have LPK : Hid (P.length = k) := by have h9 := congrArg List.length (unhide HPK); rw [List.length_map, List.length_take, ← unhide HN] at h9; show _ = _; omega
      have LQK : Hid (Q.length = k) := by show _ = _; rw [← unhide HPQ, List.length_map]; exact unhide LPK
      clear oA oR oO o1 oe op ob nm hbel hx hbx hmx hfx
      have i1 : (0 : Int) ≤ (k : Int) := by omega
      have i2 : (k : Int) < (n : Int) := by omega
      have ec0 := (br_of (unhide OR1) (unhide X1)).1
      simp only at ec0
      have ec1 := (br_of (unhide OR1) (unhide X1)).2.1
      simp only at ec1
      have ec2 := (br_of (unhide OR1) (unhide X1)).2.2.1
      simp only at ec2
      have ec3 := (br_of (unhide OR1) (unhide X1)).2.2.2.1
      simp only at ec3
      have ec4 := (br_of (unhide OR1) (unhide X1)).2.2.2.2.1
      simp only at ec4
      have ec5 := (br_of (unhide OR1) (unhide X1)).2.2.2.2.2.1
      simp only at ec5
      have ec6 := (br_of (unhide OR1) (unhide X1)).2.2.2.2.2.2
      simp only at ec6
      obtain ⟨wor1, hV⟩ : ∃ X, X = wo.alloc (.cells ([.string b.name, .int .i64 b.valid, .int .i64 b.next, .int .i64 b.mod, .slice am b.mails.length cm, .slice at1 b.tombs.length ct1, .int .i64 b.hor] : List Value).toArray 53) := ⟨_, rfl⟩
      have Vx : HasObj wor1 wo.heap.size 53 [.string b.name, .int .i64 b.valid, .int .i64 b.next, .int .i64 b.mod, .slice am b.mails.length cm, .slice at1 b.tombs.length ct1, .int .i64 b.hor] := by rw [hV]; exact HasObj.new _ _ _
      have hbn : Below wo.heap.size wo wor1 := by rw [hV]; exact (Below.refl _ _).alloc (Nat.le_refl _) _
      have neAV : w.heap.size ≠ wo.heap.size := Nat.ne_of_lt (unhide A).lt
      have neRV : wo1.heap.size ≠ wo.heap.size := Nat.ne_of_lt (unhide R).lt
      have neOV : wo3.heap.size ≠ wo.heap.size := Nat.ne_of_lt (unhide O).lt
      have loV : w.heap.size ≤ wo.heap.size := (unhide BB).size
      have EV := hV.symm
      clear hV
      have A_ := hide ((unhide A).ups hbn)
      clear A
      have A := A_
      clear A_
      have R_ := hide ((unhide R).ups hbn)
      clear R
      have R := R_
      clear R_
      have O_ := hide ((unhide O).ups hbn)
      clear O
      have O := O_
      clear O_
      have OR1_ := hide ((unhide OR1).up hbn)
      clear OR1
      have OR1 := OR1_
      clear OR1_
      have EB1_ := hide ((unhide EB1).up hbn)
      clear EB1
      have EB1 := EB1_
      clear EB1_
      have OP_ := hide ((unhide OP).up hbn)
      clear OP
      have OP := OP_
      clear OP_
      have OB_ := hide ((unhide OB).up hbn)
      clear OB
      have OB := OB_
      clear OB_
      have NM_ := hide ((unhide NM).up hbn)
      clear NM
      have NM := NM_
      clear NM_
      have sz101 := hide (hbn.size)
      have BB_ := hide (below_y (unhide BB) hbn)
      clear BB
      have BB := BB_
      clear BB_
      clear hbn
      have V := hide Vx
      clear Vx
      have Vc0_51 := (unhide V).cell 0 rfl
      have Vc1_51 := (unhide V).cell 1 rfl
      have Vc2_51 := (unhide V).cell 2 rfl
      have Vc3_51 := (unhide V).cell 3 rfl
      have Vc4_51 := (unhide V).cell 4 rfl
      have Vc5_51 := (unhide V).cell 5 rfl
      have Vc6_51 := (unhide V).cell 6 rfl
      have hlo8 : w.heap.size ≤ wor1.heap.size := (unhide BB).size
      have PLT : Hid (∀ z ∈ P, z.2 < wor1.heap.size ∧ ∀ q, (z.1.m.ownBlock = some q ∨ z.1.t.ownBlock = some q) → q < wor1.heap.size) := fun z hz => ⟨(unhide OB z hz).2.1.lt, fun q hq => ((unhide OB z hz).2.2.base q hq).2⟩
      go_wp2_with fail
      clear ec0 ec1 ec2 ec3 ec4 ec5 ec6 Vc0_51 Vc1_51 Vc2_51 Vc3_51 Vc4_51 Vc5_51 Vc6_51 EV
      refine (copiedBox_any b _ _ B _ (unhide FX) ((unhide EB1) _ (unhide M1))).mono ?_
      rintro e wor2 ⟨mC, tC, rfl, oC, hb⟩
      obtain ⟨amC, cmC, rfl⟩ := g_shape oC.1
      obtain ⟨atC, ctC, rfl⟩ := g_shape oC.2
      have NC := hide (OwnBx.base oC)
      have A_ := hide ((unhide A).ups hb)
      clear A
      have A := A_
      clear A_
      have R_ := hide ((unhide R).ups hb)
      clear R
      have R := R_
      clear R_
      have O_ := hide ((unhide O).ups hb)
      clear O
      have O := O_
      clear O_
      have V_ := hide ((unhide V).ups hb)
      clear V
      have V := V_
      clear V_
      have OR1_ := hide ((unhide OR1).up hb)
      clear OR1
      have OR1 := OR1_
      clear OR1_
      have EB1_ := hide ((unhide EB1).up hb)
      clear EB1
      have EB1 := EB1_
      clear EB1_
      have OP_ := hide ((unhide OP).up hb)
      clear OP
      have OP := OP_
      clear OP_
      have OB_ := hide ((unhide OB).up hb)
      clear OB
      have OB := OB_
      clear OB_
      have NM_ := hide ((unhide NM).up hb)
      clear NM
      have NM := NM_
      clear NM_
      have sz102 := hide (hb.size)
      have BB_ := hide (below_y (unhide BB) hb)
      clear BB
      have BB := BB_
      clear BB_
      clear hb
      have OC := hide oC
      clear oC
      obtain ⟨wor3, hG⟩ : ∃ X, X = wor2.alloc (.cells ([.string b.name, .int .i64 b.valid, .int .i64 b.next, .int .i64 b.mod, .slice amC b.mails.length cmC, .slice atC b.tombs.length ctC, .int .i64 b.hor] : List Value).toArray 53) := ⟨_, rfl⟩
      have Gx : HasObj wor3 wor2.heap.size 53 [.string b.name, .int .i64 b.valid, .int .i64 b.next, .int .i64 b.mod, .slice amC b.mails.length cmC, .slice atC b.tombs.length ctC, .int .i64 b.hor] := by rw [hG]; exact HasObj.new _ _ _
      have hbn : Below wor2.heap.size wor2 wor3 := by rw [hG]; exact (Below.refl _ _).alloc (Nat.le_refl _) _
      have neAG : w.heap.size ≠ wor2.heap.size := Nat.ne_of_lt (unhide A).lt
      have neRG : wo1.heap.size ≠ wor2.heap.size := Nat.ne_of_lt (unhide R).lt
      have neOG : wo3.heap.size ≠ wor2.heap.size := Nat.ne_of_lt (unhide O).lt
      have neVG : wo.heap.size ≠ wor2.heap.size := Nat.ne_of_lt (unhide V).lt
      have loG : w.heap.size ≤ wor2.heap.size := (unhide BB).size
      have EG := hG.symm
      clear hG
      have A_ := hide ((unhide A).ups hbn)
      clear A
      have A := A_
      clear A_
      have R_ := hide ((unhide R).ups hbn)
      clear R
      have R := R_
      clear R_
      have O_ := hide ((unhide O).ups hbn)
      clear O
      have O := O_
      clear O_
      have V_ := hide ((unhide V).ups hbn)
      clear V
      have V := V_
      clear V_
      have OR1_ := hide ((unhide OR1).up hbn)
      clear OR1
      have OR1 := OR1_
      clear OR1_
      have EB1_ := hide ((unhide EB1).up hbn)
      clear EB1
      have EB1 := EB1_
      clear EB1_
      have OP_ := hide ((unhide OP).up hbn)
      clear OP
      have OP := OP_
      clear OP_
      have OB_ := hide ((unhide OB).up hbn)
      clear OB
      have OB := OB_
      clear OB_
      have NM_ := hide ((unhide NM).up hbn)
      clear NM
      have NM := NM_
      clear NM_
      have OC_ := hide ((unhide OC).up hbn)
      clear OC
      have OC := OC_
      clear OC_
      have sz103 := hide (hbn.size)
      have BB_ := hide (below_y (unhide BB) hbn)
      clear BB
      have BB := BB_
      clear BB_
      clear hbn
      have G := hide Gx
      clear Gx
      have hloG : w.heap.size ≤ wor2.heap.size := loG
      have Oc0_52 := (unhide O).cell 0 rfl
      have Oc1_52 := (unhide O).cell 1 rfl
      have Oc2_52 := (unhide O).cell 2 rfl
      have APN : Hid (∀ z ∈ P, AsideB z ((⟨b, .slice amC b.mails.length cmC, .slice atC b.tombs.length ctC⟩ : Lb), wor2.heap.size)) := fun z hz => ⟨Nat.ne_of_lt (Nat.lt_of_lt_of_le (unhide PLT z hz).1 (by have sz101_ := unhide sz101; have sz102_ := unhide sz102; have sz103_ := unhide sz103; omega)), ⟨fun q h1 h2 => by have q1 := (unhide PLT z hz).2 q (.inl h1); have q2 := (unhide NC q (.inl h2)).1; omega, fun q h1 h2 => by have q1 := (unhide PLT z hz).2 q (.inr h1); have q2 := (unhide NC q (.inr h2)).1; omega⟩⟩
      have lw4 := (unhide BB).size
      go_wp2_with (at_builtin; refine wpList_append_lies _ rfl _ _ 58 rfl w.heap.size 63 iP _ 1 8 Try.underlying58 hP hP0 hP1 hP2 rfl (by decide) _ _ _ rfl (World.ownsRow.alloc (unhide OP) _) ⟨wor3.heap.size, 0, none⟩ 1 1 (ptC (wor2.heap.size)) rfl rfl (newsC _ _) ?c2 (by decide) ?c3 ?c4 ?c5 (wor3.heap.size + 1) (by simp) ?_)
      clear Oc0_52 Oc1_52 Oc2_52 EG
      case c2 => intro u hu; simp [ptC] at hu; subst hu; rfl
      case c3 => unfold maxLen; have := unhide LQK; omega
      case c4 => have := unhide LQK; omega
      case c5 => have q1_ := (unhide BB).size; have sz101_ := unhide sz101; have sz102_ := unhide sz102; have sz103_ := unhide sz103; simp; omega
      intro gOP4 capOP4 wor4 hown hgr hat hlt_
      have oa := World.ownsRow.alloc (unhide OP) (.cells ((ptC (wor2.heap.size)) : List Value).toArray 63)
      have A_ := hide (((unhide A).alloc (.cells ((ptC (wor2.heap.size)) : List Value).toArray 63)).kept hgr (fun e => ((unhide A).alloc (.cells ((ptC (wor2.heap.size)) : List Value).toArray 63)).not_row (by decide) oa e.symm))
      have R_ := hide (((unhide R).alloc (.cells ((ptC (wor2.heap.size)) : List Value).toArray 63)).kept hgr (fun e => ((unhide R).alloc (.cells ((ptC (wor2.heap.size)) : List Value).toArray 63)).not_row (by decide) oa e.symm))
      have O_ := hide (((unhide O).alloc (.cells ((ptC (wor2.heap.size)) : List Value).toArray 63)).kept hgr (fun e => ((unhide O).alloc (.cells ((ptC (wor2.heap.size)) : List Value).toArray 63)).not_row (by decide) oa e.symm))
      have V_ := hide (((unhide V).alloc (.cells ((ptC (wor2.heap.size)) : List Value).toArray 63)).kept hgr (fun e => ((unhide V).alloc (.cells ((ptC (wor2.heap.size)) : List Value).toArray 63)).not_row (by decide) oa e.symm))
      have G_ := hide (((unhide G).alloc (.cells ((ptC (wor2.heap.size)) : List Value).toArray 63)).kept hgr (fun e => ((unhide G).alloc (.cells ((ptC (wor2.heap.size)) : List Value).toArray 63)).not_row (by decide) oa e.symm))
      have OR1_ : Hid (OwnBr B wor4 (.slice (some ⟨g1, 0, none⟩) n c1) (L)) := g_aside (World.ownsRow.alloc (unhide OR1) (.cells ((ptC (wor2.heap.size)) : List Value).toArray 63)) hgr (fun x hx => rows_apart (oa) (World.ownsRow.alloc (unhide OR1) (.cells ((ptC (wor2.heap.size)) : List Value).toArray 63)) (by decide) x hx)
      have EB1_ : Hid (EachB B wor4 (L)) := ((unhide EB1).up ((Below.refl _ _).alloc (Nat.le_refl _) (.cells ((ptC (wor2.heap.size)) : List Value).toArray 63))).aside oa hgr (by decide) (by decide)
      have OB_ : Hid (ObjsB w.heap.size wor4 (P)) := ((unhide OB).up ((Below.refl _ _).alloc (Nat.le_refl _) (.cells ((ptC (wor2.heap.size)) : List Value).toArray 63))).aside oa hgr (by decide) (by decide) (by decide)
      have NM_ : Hid (Named w.heap.size wor4 (wo2.heap.size) (S)) := ((unhide NM).up ((Below.refl _ _).alloc (Nat.le_refl _) (.cells ((ptC (wor2.heap.size)) : List Value).toArray 63))).kept hgr (fun e => ((unhide NM).up ((Below.refl _ _).alloc (Nat.le_refl _) (.cells ((ptC (wor2.heap.size)) : List Value).toArray 63))).no_row oa e.symm)
      have OC_ : Hid (OwnBx wor1.heap.size wor4 (.slice amC b.mails.length cmC) (.slice atC b.tombs.length ctC) b) := ⟨g_aside (World.ownsRow.alloc (unhide OC).1 (.cells ((ptC (wor2.heap.size)) : List Value).toArray 63)) hgr (fun x hx => rows_apart oa (World.ownsRow.alloc (unhide OC).1 (.cells ((ptC (wor2.heap.size)) : List Value).toArray 63)) (by decide) x hx), g_aside (World.ownsRow.alloc (unhide OC).2 (.cells ((ptC (wor2.heap.size)) : List Value).toArray 63)) hgr (fun x hx => rows_apart oa (World.ownsRow.alloc (unhide OC).2 (.cells ((ptC (wor2.heap.size)) : List Value).toArray 63)) (by decide) x hx)⟩
      have OP_ : Hid (OwnPt w.heap.size wor4 (.slice (some ⟨gOP4, 0, none⟩) (Q.length + 1) capOP4) (Q ++ [wor2.heap.size])) := by exact OwnPt.snoc hown
      have BB_ : Hid (Below w.heap.size w wor4) := ((unhide BB).alloc (unhide BB).size _).grown hgr (by have q1_ := (unhide BB).size; simp; omega) (fun b hb => by have q2_ := (World.ownsRow.lt (unhide OP) b hb).1; have q1_ := (unhide BB).size; have sz101_ := unhide sz101; have sz102_ := unhide sz102; have sz103_ := unhide sz103; omega)
      have sz104 : Hid (wor3.heap.size ≤ wor4.heap.size) := by have q3_ := hgr.size; simp at q3_; show _ ≤ _; omega
      clear A
      have A := A_
      clear A_
      clear R
      have R := R_
      clear R_
      clear O
      have O := O_
      clear O_
      clear V
      have V := V_
      clear V_
      clear G
      have G := G_
      clear G_
      clear OR1
      have OR1 := OR1_
      clear OR1_
      clear EB1
      have EB1 := EB1_
      clear EB1_
      clear OP
      have OP := OP_
      clear OP_
      clear OB
      have OB := OB_
      clear OB_
      clear NM
      have NM := NM_
      clear NM_
      clear OC
      have OC := OC_
      clear OC_
      clear BB
      have BB := BB_
      clear BB_
      clear hown hgr oa lw4 hat hlt_
      have Ofz0_53 := (unhide O).frozen 0
      have Ocz0_53 := (unhide O).cell 0 rfl
      obtain ⟨wor5, hst⟩ : ∃ X, X = wor4.setCell ⟨wo3.heap.size, 0, none⟩ ((.slice (some ⟨gOP4, 0, none⟩) (Q.length + 1) capOP4)) := ⟨_, rfl⟩
      have OR1_ : Hid (OwnBr B wor5 (.slice (some ⟨g1, 0, none⟩) n c1) (L)) := by show OwnBr _ _ _ _; rw [hst]; exact (unhide O).row (j := 0) (by decide) (unhide OR1) _
      have EB1_ : Hid (EachB B wor5 (L)) := by show EachB _ _ _; rw [hst]; exact (unhide EB1).set (j := 0) (unhide O) (by decide) (by decide) _
      have OP_ : Hid (OwnPt w.heap.size wor5 ((.slice (some ⟨gOP4, 0, none⟩) (Q.length + 1) capOP4)) (Q ++ [wor2.heap.size])) := by show OwnPt _ _ _ _; rw [hst]; exact (unhide O).row (j := 0) (by decide) (unhide OP) _
      have OB_ : Hid (ObjsB w.heap.size wor5 (P)) := by show ObjsB _ _ _; rw [hst]; exact (unhide OB).set (j := 0) (unhide O) (by decide) (by decide) (by decide) _
      have NM_ : Hid (Named w.heap.size wor5 (wo2.heap.size) (S)) := by show Named _ _ _ _; rw [hst]; exact (unhide NM).set (j := 0) (unhide O) _
      have OC_ : Hid (OwnBx wor1.heap.size wor5 (.slice amC b.mails.length cmC) (.slice atC b.tombs.length ctC) b) := by show OwnBx _ _ _ _ _; rw [hst]; exact ⟨(unhide O).row (j := 0) (by decide) (unhide OC).1 _, (unhide O).row (j := 0) (by decide) (unhide OC).2 _⟩
      have A_ := hide ((unhide A).other (j := 0) neAO ((.slice (some ⟨gOP4, 0, none⟩) (Q.length + 1) capOP4)))
      rw [← hst] at A_
      have R_ := hide ((unhide R).other (j := 0) neRO ((.slice (some ⟨gOP4, 0, none⟩) (Q.length + 1) capOP4)))
      rw [← hst] at R_
      have O_ := hide ((unhide O).set 0 ((.slice (some ⟨gOP4, 0, none⟩) (Q.length + 1) capOP4)))
      rw [← hst] at O_
      have V_ := hide ((unhide V).other (j := 0) neOV.symm ((.slice (some ⟨gOP4, 0, none⟩) (Q.length + 1) capOP4)))
      rw [← hst] at V_
      have G_ := hide ((unhide G).other (j := 0) neOG.symm ((.slice (some ⟨gOP4, 0, none⟩) (Q.length + 1) capOP4)))
      rw [← hst] at G_
      have BB_ := hide ((unhide BB).setCell (p := ⟨wo3.heap.size, 0, none⟩) (show w.heap.size ≤ wo3.heap.size from loO) ((.slice (some ⟨gOP4, 0, none⟩) (Q.length + 1) capOP4)))
      rw [← hst] at BB_
      have sz105 : Hid (wor4.heap.size ≤ wor5.heap.size) := by show _ ≤ _; rw [hst]; simp
      clear OR1
      have OR1 := OR1_
      clear OR1_
      clear EB1
      have EB1 := EB1_
      clear EB1_
      clear OP
      have OP := OP_
      clear OP_
      clear OB
      have OB := OB_
      clear OB_
      clear NM
      have NM := NM_
      clear NM_
      clear OC
      have OC := OC_
      clear OC_
      clear A
      have A := A_
      clear A_
      clear R
      have R := R_
      clear R_
      clear O
      have O := O_
      clear O_
      clear V
      have V := V_
      clear V_
      clear G
      have G := G_
      clear G_
      clear BB
      have BB := BB_
      clear BB_
      have Est105 := hst.symm
      clear hst
      have OCB : Hid (OwnBx w.heap.size wor5 (.slice amC b.mails.length cmC) (.slice atC b.tombs.length ctC) b) := OwnBx.based (unhide OC) hlo8
      have OB9 := hide (ObjsB.snoc (p := ((⟨b, .slice amC b.mails.length cmC, .slice atC b.tombs.length ctC⟩ : Lb), wor2.heap.size)) (unhide OB) hloG (unhide G) (unhide OCB))
      clear OB OCB OC
      have OB := OB9
      clear OB9
      have e9 : Q.length + 1 = (Q ++ [wor2.heap.size]).length := by simp
      rw [e9] at O OP
      clear e9
      have HPK9 : Hid ((P ++ [((⟨b, .slice amC b.mails.length cmC, .slice atC b.tombs.length ctC⟩ : Lb), wor2.heap.size)]).map (·.1.b) = s.boxes.take (k + 1)) := by show _ = _; rw [List.map_append, unhide HPK, take_snoc (unhide XB)]; rfl
      have HPQ9 : Hid ((P ++ [((⟨b, .slice amC b.mails.length cmC, .slice atC b.tombs.length ctC⟩ : Lb), wor2.heap.size)]).map (·.2) = Q ++ [wor2.heap.size]) := by show _ = _; rw [List.map_append, unhide HPQ]; rfl
      have HPA9 : Hid ((P ++ [((⟨b, .slice amC b.mails.length cmC, .slice atC b.tombs.length ctC⟩ : Lb), wor2.heap.size)]).Pairwise AsideB) := List.pairwise_append.2 ⟨unhide HPA, by simp, fun z hz z2 hz2 => by simp at hz2; subst hz2; exact unhide APN z hz⟩
      have LK := (unhide NM).look (n := b.name) (unhide FX).name
      rw [unhide HFS] at LK
      have hnm := (unhide FX).name
      cases hfb : findB P b.name with
      | some g0 =>
        rw [hfb] at LK
        simp only [ptrOf] at LK
        have HFS9 := hide (names_old (p := ((⟨b, .slice amC b.mails.length cmC, .slice atC b.tombs.length ctC⟩ : Lb), wor2.heap.size)) (unhide HFS) hfb)
        clear hfb
        have Oc0_54 := (unhide O).cell 0 rfl
        have Oc1_54 := (unhide O).cell 1 rfl
        have Oc2_54 := (unhide O).cell 2 rfl
        have Gc0_55 := (unhide G).cell 0 rfl
        have Gc1_55 := (unhide G).cell 1 rfl
        have Gc2_55 := (unhide G).cell 2 rfl
        have Gc3_55 := (unhide G).cell 3 rfl
        have Gc4_55 := (unhide G).cell 4 rfl
        have Gc5_55 := (unhide G).cell 5 rfl
        have Gc6_55 := (unhide G).cell 6 rfl
        go_wp2
        clear Ofz0_53 Ocz0_53 Oc0_54 Oc1_54 Oc2_54 Gc0_55 Gc1_55 Gc2_55 Gc3_55 Gc4_55 Gc5_55 Gc6_55 Est105
        go_roundw
        case rel => rw [unhide HREL]; exact ⟨k + 1, _, _, _, _, _, by omega, by go_num, unhide HPK9, unhide HPQ9, unhide HPA9, by have h1 := unhide HSP; rw [List.length_append]; omega, unhide HFS9, unhide A, unhide R, unhide O, unhide OR1, unhide EB1, unhide OP, unhide OB, unhide NM, unhide BB⟩
        case measure => simp [intOf]; omega
      | none =>
        rw [hfb] at LK
        simp only [ptrOf] at LK
        have HFS9 := hide (names_new (p := ((⟨b, .slice amC b.mails.length cmC, .slice atC b.tombs.length ctC⟩ : Lb), wor2.heap.size)) (unhide NM).2.2 (unhide HFS) hfb)
        have LS9 := hide (putS_len_le S (⟨b.name, ByteArray.empty, 0⟩, wor2.heap.size))
        obtain ⟨w9, MU, nm9, hg9⟩ := (unhide NM).put (n := b.name) (g := wor2.heap.size) hnm (by have h1 := unhide HSP; have h2 := unhide LPK; omega)
        have NM9 := hide nm9
        have HG9 := hide hg9
        clear hfb nm9 hg9
        have Oc0_54 := (unhide O).cell 0 rfl
        have Oc1_54 := (unhide O).cell 1 rfl
        have Oc2_54 := (unhide O).cell 2 rfl
        have Gc0_55 := (unhide G).cell 0 rfl
        have Gc1_55 := (unhide G).cell 1 rfl
        have Gc2_55 := (unhide G).cell 2 rfl
        have Gc3_55 := (unhide G).cell 3 rfl
        have Gc4_55 := (unhide G).cell 4 rfl
        have Gc5_55 := (unhide G).cell 5 rfl
        have Gc6_55 := (unhide G).cell 6 rfl
        go_wp2
        clear Ofz0_53 Ocz0_53 Oc0_54 Oc1_54 Oc2_54 Gc0_55 Gc1_55 Gc2_55 Gc3_55 Gc4_55 Gc5_55 Gc6_55 Est105
        clear LK MU
        have hg9 := unhide HG9
        have A_ := hide ((unhide A).kept hg9 (fun e => (unhide NM).no_obj (unhide A) (Option.some.inj e)))
        have R_ := hide ((unhide R).kept hg9 (fun e => (unhide NM).no_obj (unhide R) (Option.some.inj e)))
        have O_ := hide ((unhide O).kept hg9 (fun e => (unhide NM).no_obj (unhide O) (Option.some.inj e)))
        have V_ := hide ((unhide V).kept hg9 (fun e => (unhide NM).no_obj (unhide V) (Option.some.inj e)))
        have G_ := hide ((unhide G).kept hg9 (fun e => (unhide NM).no_obj (unhide G) (Option.some.inj e)))
        have OR1_ : Hid (OwnBr B w9 (.slice (some ⟨g1, 0, none⟩) n c1) (L)) := g_aside (unhide OR1) hg9 (fun q hq he => by cases hq; exact (unhide NM).no_row (unhide OR1) he)
        have EB1_ : Hid (EachB B w9 (L)) := fun x hx => ⟨g_aside ((unhide EB1) x hx).1 hg9 (fun q hq he => by cases hq; exact (unhide NM).no_row ((unhide EB1) x hx).1 he), g_aside ((unhide EB1) x hx).2 hg9 (fun q hq he => by cases hq; exact (unhide NM).no_row ((unhide EB1) x hx).2 he)⟩
        have OP_ : Hid (OwnPt w.heap.size w9 ((.slice (some ⟨gOP4, 0, none⟩) (Q ++ [wor2.heap.size]).length capOP4)) (Q ++ [wor2.heap.size])) := g_aside (unhide OP) hg9 (fun q hq he => by cases hq; exact (unhide NM).no_row (unhide OP) he)
        have OB_ : Hid (ObjsB w.heap.size w9 (P ++ [((⟨b, .slice amC b.mails.length cmC, .slice atC b.tombs.length ctC⟩ : Lb), wor2.heap.size)])) := (unhide OB).mapped (unhide NM) hg9
        have BB_ : Hid (Below w.heap.size w w9) := (unhide BB).grown hg9 (unhide BB).size (fun q hq => by cases hq; exact (unhide NM).2.1)
        have sz106 := hide (hg9.size)
        clear A
        have A := A_
        clear A_
        clear R
        have R := R_
        clear R_
        clear O
        have O := O_
        clear O_
        clear V
        have V := V_
        clear V_
        clear G
        have G := G_
        clear G_
        clear OR1
        have OR1 := OR1_
        clear OR1_
        clear EB1
        have EB1 := EB1_
        clear EB1_
        clear OP
        have OP := OP_
        clear OP_
        clear OB
        have OB := OB_
        clear OB_
        clear BB
        have BB := BB_
        clear BB_
        clear NM HG9 hg9
        have NM := NM9
        clear NM9
        go_roundw
        case rel => rw [unhide HREL]; exact ⟨k + 1, _, _, _, _, _, by omega, by go_num, unhide HPK9, unhide HPQ9, unhide HPA9, by have h1 := unhide HSP; have h2 := unhide LS9; rw [List.length_append]; simp only [List.length_cons, List.length_nil]; omega, unhide HFS9, unhide A, unhide R, unhide O, unhide OR1, unhide EB1, unhide OP, unhide OB, unhide NM, unhide BB⟩
        case measure => simp [intOf]; omega
    · obtain rfl : k = n := by omega
      have A := hide oA
      have R := hide oR
      have O := hide oO
      have OP := hide op
      have OB := hide ob
      have NM := hide nm
      have BB := hide hbel
      clear oA oR oO o1 oe op ob nm hbel hlt hk
      have Ac0_3 := (unhide A).cell 0 rfl
      have Ac1_3 := (unhide A).cell 1 rfl
      have Oc0_4 := (unhide O).cell 0 rfl
      have Oc1_4 := (unhide O).cell 1 rfl
      have Oc2_4 := (unhide O).cell 2 rfl
      have Rf0 := (unhide R).frozen 0
      have Rf1 := (unhide R).frozen 1
      have Rf2 := (unhide R).frozen 2
      have Re0 := (unhide R).cell 0 rfl
      have Re1 := (unhide R).cell 1 rfl
      have Re2 := (unhide R).cell 2 rfl
      have F := hide (fill3 (unhide R) (.slice av Q.length cv) (.map (some (wo2.heap.size))) (.int .i64 s.valid))
      obtain ⟨U, hU⟩ : ∃ U, U = (((wo.setCell ⟨wo1.heap.size, 0, none⟩ (.slice av Q.length cv)).setCell ⟨wo1.heap.size, 1, none⟩ (.map (some (wo2.heap.size)))).setCell ⟨wo1.heap.size, 2, none⟩ (.int .i64 s.valid)) := ⟨_, rfl⟩
      have F9 := unhide F
      rw [← hU] at F9
      have NM9 : Hid (Named w.heap.size U (wo2.heap.size) S) := by show Named _ _ _ _; rw [hU]; exact (((unhide NM).set (unhide R) _).set ((unhide R).set 0 _) _).set (((unhide R).set 0 _).set 1 _) _
      have EU := hU.symm
      clear F hU
      have v0 := F9.obj.cell 0 rfl
      have v1 := F9.obj.cell 1 rfl
      have v2 := F9.obj.cell 2 rfl
      have F := hide F9
      clear F9
      go_wp2_with (refine bodyPost_ret (by simp [results, Try.results30, go_sem, v0, v1, v2]; try rfl) rfl ?_)
      clear EU
      have F := unhide F
      refine ⟨_, _, P, ?_, rfl, ⟨?_, (unhide OB).filled (unhide R) F (by decide) (by decide) (by decide), unhide HPA, S, unhide NM9, unhide HSP, unhide HFS⟩, F.below loR (unhide BB)⟩
      · rw [unhide HPK, List.take_of_length_le (by have := unhide HN; omega)]
      · rw [unhide HPQ]; exact F.row (by decide) (unhide OP)
end Go.Proofs.Ytecognggnbopaac
