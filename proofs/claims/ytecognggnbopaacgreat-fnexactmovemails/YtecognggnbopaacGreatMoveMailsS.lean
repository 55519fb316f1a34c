/- The specification's MoveMails. Made by gen_stores.py. -/
import Derived.Test.YtecognggnbopaacGreatStB
import Derived.Test.YtecognggnbopaacGreatCopyMailsS
import Derived.Test.YtecognggnbopaacGreatSetFlagsS
import Derived.Test.YtecognggnbopaacGreatExpungeS
namespace Go.Proofs.YtecognggnbopaacGreat
open Go.RowKit
open Plain
set_option linter.unusedVariables false
set_option linter.unusedSimpArgs false

namespace Plain
theorem exp_small {b : Bx} {s : List Rg} (hb : boxOk b = true) : (expV b s).2.length ≤ 1048576 := by
 unfold expV
 split
 ·obtain ⟨g1, g2⟩ := goneM_right (s := s) hb
  have hu := (uidsV_inv _ (goneM s b.mails) rfl (by omega) g2).2.1
  show (uidsV (goneM s b.mails)).length ≤ _
  omega
 ·exact Nat.zero_le _
end Plain
namespace Plain
def inCnt (set : List Rg) (b : Bx) (k : Nat) : Nat := ((b.mails.take k).filter fun m => hasB set m.uid).length
theorem inCnt_yes {set : List Rg} {b : Bx} {k : Nat} {m : Ml} (h : b.mails[k]? = some m) (hh : hasB set m.uid = true) : inCnt set b (k + 1) = inCnt set b k + 1 := by unfold inCnt; rw [List.take_add_one, h, List.filter_append]; simp [hh]
theorem inCnt_no {set : List Rg} {b : Bx} {k : Nat} {m : Ml} (h : b.mails[k]? = some m) (hh : hasB set m.uid = false) : inCnt set b (k + 1) = inCnt set b k := by unfold inCnt; rw [List.take_add_one, h, List.filter_append]; simp [hh]
theorem inCnt_le (set : List Rg) (b : Bx) (k : Nat) : inCnt set b k ≤ k := Nat.le_trans (List.length_filter_le _ _) (by rw [List.length_take]; omega)
end Plain
theorem sizeM_held (l : List Rg) (v : Value) (B : Nat) (w : World) (hs : l.length ≤ 1048576) (h : OwnR B w v l) :
  Calls Tryz.prog 22 #[v] w fun e w' => e = .returned (.int .i64 (sizeL l)) ∧ Below w.heap.size w w' :=
 (spec_SetSize_any l v w hs h.read).mono fun e w' ⟨h, q, hq⟩ => ⟨h, by rw [hq]; exact ⟨rfl, rfl, rfl, Nat.le_refl _, fun _ _ => rfl⟩⟩
set_option maxHeartbeats 16000000 in
set_option maxRecDepth 100000 in
theorem spec_MoveMails_any (s : Sx) (src dst : ByteArray) (set : List Rg) (v vs : Value) (B B2 : Nat) (w : World) (hf : FitSt s) (hs : set.length ≤ 1048576) (h : ReadSt B w v s.boxes) (h2 : OwnR B2 w vs set) :
  Calls Tryz.prog 6 #[.agg #[v, .int .i64 s.valid], .string src, vs, .string dst] w fun e w' => ∃ v', e = .returned (.tuple #[.agg #[v', .int .i64 (moveV s src set dst).1.valid], .int .i64 (moveV s src set dst).2]) ∧ ReadSt w.heap.size w' v' (moveV s src set dst).1.boxes ∧ Below w.heap.size w w' := by
 have FT := hide hf
 obtain ⟨L, hL, h⟩ := h
 obtain ⟨a1, c1, rfl⟩ := g_shape h.row
 obtain ⟨n, hn⟩ : ∃ n, n = s.boxes.length := ⟨_, rfl⟩
 have hn1 : L.length = n := by rw [hn, ← hL, List.length_map]
 have hnl := hf.len
 rw [← hn] at hnl
 have S1 := hide h
 rw [hn1] at S1 ⊢
 have FE := hide hf.each; have HL := hide hL; have HN := hide hn; have HN1 := hide hn1; clear h hL hn hn1 hf; have RS := hide h2; clear h2; have BB := hide (Below.refl w.heap.size w)
 obtain ⟨wu1, hA⟩ : ∃ X, X = w.alloc (.cells ([.slice a1 n c1, .int .i64 s.valid] : List Value).toArray 30) := ⟨_, rfl⟩
 have Ax : HasObj wu1 w.heap.size 30 [.slice a1 n c1, .int .i64 s.valid] := by rw [hA]; exact HasObj.new _ _ _
 have hbn : Below w.heap.size w wu1 := by rw [hA]; exact (Below.refl _ _).alloc (Nat.le_refl _) _
 have loA : w.heap.size ≤ w.heap.size := (uh BB).size
 have EA := hA.symm; clear hA; replace S1 := hide ((uh S1).up hbn); replace RS := hide ((uh RS).up hbn); have sz1 := hide (hbn.size); replace BB := hide (below_y (uh BB) hbn); clear hbn; have A := hide Ax; clear Ax
 obtain ⟨wu2, hR⟩ : ∃ X, X = wu1.alloc (.cells ([.slice none 0 0, .int .i64 0] : List Value).toArray 30) := ⟨_, rfl⟩
 have Rx : HasObj wu2 wu1.heap.size 30 [.slice none 0 0, .int .i64 0] := by rw [hR]; exact HasObj.new _ _ _
 have hbn : Below wu1.heap.size wu1 wu2 := by rw [hR]; exact (Below.refl _ _).alloc (Nat.le_refl _) _
 have neAR : w.heap.size ≠ wu1.heap.size := Nat.ne_of_lt (uh A).lt
 have loR : w.heap.size ≤ wu1.heap.size := (uh BB).size
 have ER := hR.symm; clear hR; replace A := hide ((uh A).ups hbn); replace S1 := hide ((uh S1).up hbn); replace RS := hide ((uh RS).up hbn); have sz2 := hide (hbn.size); replace BB := hide (below_y (uh BB) hbn); clear hbn; have R := hide Rx; clear Rx; have Ac0_1 := (uh A).cell 0 rfl; have Ac1_1 := (uh A).cell 1 rfl
 go_enter Tryz.func6, Tryz.ntmps6
 go_wp2_with fail; clear Ac0_1 Ac1_1 EA ER
 have LO : Hid (w.heap.size ≤ wu2.heap.size) := (uh BB).size
 refine (l09Copy_any s _ _ _ (uh FT) ⟨L, uh HL, uh S1⟩).mono ?_
 rintro e wu3 ⟨v9, rfl, oS, hb⟩
 obtain ⟨KL, hK, oK⟩ := oS
 obtain ⟨ak, ck, rfl⟩ := g_shape oK.row
 have hnK : KL.length = n := by rw [uh HN, ← hK, List.length_map]
 have SK_ := hide (oK.based (uh LO))
 rw [hnK] at SK_ ⊢
 have HK := hide hK; clear oK hK hnK; replace A := hide ((uh A).ups hb); replace R := hide ((uh R).ups hb); replace S1 := hide ((uh S1).up hb); replace RS := hide ((uh RS).up hb); have sz3 := hide (hb.size); replace BB := hide (below_y (uh BB) hb); clear hb; have SK := SK_; clear SK_
 obtain ⟨wu4, hS⟩ : ∃ X, X = wu3.alloc (.cells ([.slice ak n ck, .int .i64 s.valid] : List Value).toArray 30) := ⟨_, rfl⟩
 have Sx : HasObj wu4 wu3.heap.size 30 [.slice ak n ck, .int .i64 s.valid] := by rw [hS]; exact HasObj.new _ _ _
 have hbn : Below wu3.heap.size wu3 wu4 := by rw [hS]; exact (Below.refl _ _).alloc (Nat.le_refl _) _
 have neAS : w.heap.size ≠ wu3.heap.size := Nat.ne_of_lt (uh A).lt
 have neRS : wu1.heap.size ≠ wu3.heap.size := Nat.ne_of_lt (uh R).lt
 have loS : w.heap.size ≤ wu3.heap.size := (uh BB).size
 have ES := hS.symm; clear hS; replace A := hide ((uh A).ups hbn); replace R := hide ((uh R).ups hbn); replace S1 := hide ((uh S1).up hbn); replace RS := hide ((uh RS).up hbn); replace SK := hide ((uh SK).up hbn); have sz4 := hide (hbn.size); replace BB := hide (below_y (uh BB) hbn); clear hbn; have S := hide Sx; clear Sx
 cases hse : (src.toList == dst.toList) with
 | true =>
  have ANS : Hid (moveV s src set dst = (s, 4)) := moveV_bad (same_iff.1 hse)
  have Sc0_2 := (uh S).cell 0 rfl; have Sc1_2 := (uh S).cell 1 rfl; have Rf0 := (uh R).frozen 0; have Rf1 := (uh R).frozen 1; have Re0 := (uh R).cell 0 rfl; have Re1 := (uh R).cell 1 rfl; have F := hide (fill2 (uh R) (.slice ak n ck) (.int .i64 s.valid))
  obtain ⟨U, hU⟩ : ∃ U, U = ((wu4.setCell ⟨wu1.heap.size, 0, none⟩ (.slice ak n ck)).setCell ⟨wu1.heap.size, 1, none⟩ (.int .i64 s.valid)) := ⟨_, rfl⟩
  have F9 := uh F
  rw [← hU] at F9
  have EU := hU.symm; clear F hU; have v0 := F9.obj.cell 0 rfl; have v1 := F9.obj.cell 1 rfl; have F := hide F9; clear F9
  go_wp2_with (refine bodyPost_ret (by simp [results, Tryz.results6, go_sem, v0, v1]; try rfl) rfl ?_)
  clear EU; have F := uh F
  rw [uh ANS]
  exact ⟨_, rfl, ⟨KL, uh HK, ⟨F.row (by decide) (uh SK).row, fun x hx => ⟨F.row (by decide) ((uh SK).each x hx).1, F.row (by decide) ((uh SK).each x hx).2⟩⟩⟩, F.below loR (uh BB)⟩
 | false =>
  have hne : src ≠ dst := fun e => by rw [same_iff.2 e] at hse; cases hse
  have HNE := hide hne; clear hne; have Ac0_2 := (uh A).cell 0 rfl; have Ac1_2 := (uh A).cell 1 rfl; go_wp2_with fail; clear Ac0_2 Ac1_2 ES
  obtain ⟨z, code, hzc⟩ : ∃ z code, (z, code) = copyV s src set dst := ⟨_, _, rfl⟩
  have LOC : Hid (w.heap.size ≤ wu4.heap.size) := (uh BB).size
  refine (spec_CopyMails_any s src dst set _ vs _ _ _ (uh FT) hs ⟨L, uh HL, uh S1⟩ (uh RS)).mono ?_
  rintro e wu5 ⟨vC, rfl, oC, hb⟩
  rw [← hzc] at oC ⊢
  simp only at oC ⊢
  have HZC := hide hzc
  obtain ⟨aC, cC, rfl⟩ := oC.shape
  obtain ⟨J, hJ, oJ⟩ := oC
  have OJ_ := hide (oJ.based (uh LOC)); have HJ := hide hJ; clear oJ hJ hzc hse; replace A := hide ((uh A).ups hb); replace R := hide ((uh R).ups hb); replace S := hide ((uh S).ups hb); replace S1 := hide ((uh S1).up hb); replace RS := hide ((uh RS).up hb); replace SK := hide ((uh SK).up hb); have sz5 := hide (hb.size); replace BB := hide (below_y (uh BB) hb); clear hb; have OJ := OJ_; clear OJ_
  obtain ⟨wu6, hC⟩ : ∃ X, X = wu5.alloc (.cells ([.slice aC z.boxes.length cC, .int .i64 z.valid] : List Value).toArray 30) := ⟨_, rfl⟩
  have Cx : HasObj wu6 wu5.heap.size 30 [.slice aC z.boxes.length cC, .int .i64 z.valid] := by rw [hC]; exact HasObj.new _ _ _
  have hbn : Below wu5.heap.size wu5 wu6 := by rw [hC]; exact (Below.refl _ _).alloc (Nat.le_refl _) _
  have neAC : w.heap.size ≠ wu5.heap.size := Nat.ne_of_lt (uh A).lt
  have neRC : wu1.heap.size ≠ wu5.heap.size := Nat.ne_of_lt (uh R).lt
  have neSC : wu3.heap.size ≠ wu5.heap.size := Nat.ne_of_lt (uh S).lt
  have loC : w.heap.size ≤ wu5.heap.size := (uh BB).size
  have EC := hC.symm; clear hC; replace A := hide ((uh A).ups hbn); replace R := hide ((uh R).ups hbn); replace S := hide ((uh S).ups hbn); replace S1 := hide ((uh S1).up hbn); replace RS := hide ((uh RS).up hbn); replace SK := hide ((uh SK).up hbn); replace OJ := hide ((uh OJ).up hbn); have sz6 := hide (hbn.size); replace BB := hide (below_y (uh BB) hbn); clear hbn; have C := hide Cx; clear Cx
  by_cases hc : code = 0
  ·subst hc
   have CE0 : Hid ((copyV s src set dst).2 = 0) := (congrArg Prod.snd (uh HZC)).symm
   have CZ : Hid ((copyV s src set dst).1 = z) := (congrArg Prod.fst (uh HZC)).symm
   obtain ⟨_, _, a, _, hoka, hata, hall, hlen, hval⟩ := copyV_done (uh HNE) (uh CE0)
   rw [uh CZ] at hata hall hlen hval
   have FZ : Hid (FitSt z) := ⟨by have := (uh FT).len; omega, fun b hb => fit_ok (hall b hb)⟩
   have MV : Hid (moveV s src set dst = if inSet set (takeV a set).1 = [] then (putSt z (takeV a set).1, 0) else (s, 3)) := by show _ = _; rw [moveV_in (uh HNE) (uh CE0) (by rw [uh CZ]; exact hata), uh CZ]
   have HATA := hide (atV_some hata); have HOKA := hide hoka; have l30 := (head_parts (boxOk_iff.1 hoka).1).2.2.2.2.1; have FA := hide (fit_ok hoka); have TE := hide (take_eq set hoka); clear hata hall hlen hval hoka; have Cc0_3 := (uh C).cell 0 rfl; have Cc1_3 := (uh C).cell 1 rfl; go_wp2_with fail; clear Cc0_3 Cc1_3 EC
   have LOX : Hid (w.heap.size ≤ wu6.heap.size) := (uh BB).size
   refine (spec_BoxAt_any z src _ _ _ (uh FZ) ⟨J, uh HJ, uh OJ⟩).mono ?_
   rintro e wu7 ⟨mX, tX, rfl, oX, hb⟩
   rw [uh HATA] at oX ⊢
   simp only at oX ⊢
   obtain ⟨amX, cmX, rfl⟩ := g_shape oX.1
   obtain ⟨atX, ctX, rfl⟩ := g_shape oX.2
   have OX_ := hide (oX.based (uh LOX)); clear oX; replace A := hide ((uh A).ups hb); replace R := hide ((uh R).ups hb); replace S := hide ((uh S).ups hb); replace C := hide ((uh C).ups hb); replace S1 := hide ((uh S1).up hb); replace RS := hide ((uh RS).up hb); replace SK := hide ((uh SK).up hb); replace OJ := hide ((uh OJ).up hb); have sz7 := hide (hb.size); replace BB := hide (below_y (uh BB) hb); clear hb; have OX := OX_; clear OX_
   obtain ⟨wu8, hX⟩ : ∃ X, X = wu7.alloc (.cells ([.string a.name, .int .i64 a.valid, .int .i64 a.next, .int .i64 a.mod, .slice amX a.mails.length cmX, .slice atX a.tombs.length ctX, .int .i64 a.hor] : List Value).toArray 46) := ⟨_, rfl⟩
   have Xx : HasObj wu8 wu7.heap.size 46 [.string a.name, .int .i64 a.valid, .int .i64 a.next, .int .i64 a.mod, .slice amX a.mails.length cmX, .slice atX a.tombs.length ctX, .int .i64 a.hor] := by rw [hX]; exact HasObj.new _ _ _
   have hbn : Below wu7.heap.size wu7 wu8 := by rw [hX]; exact (Below.refl _ _).alloc (Nat.le_refl _) _
   have neAX : w.heap.size ≠ wu7.heap.size := Nat.ne_of_lt (uh A).lt
   have neRX : wu1.heap.size ≠ wu7.heap.size := Nat.ne_of_lt (uh R).lt
   have neSX : wu3.heap.size ≠ wu7.heap.size := Nat.ne_of_lt (uh S).lt
   have neCX : wu5.heap.size ≠ wu7.heap.size := Nat.ne_of_lt (uh C).lt
   have loX : w.heap.size ≤ wu7.heap.size := (uh BB).size
   have EX := hX.symm; clear hX; replace A := hide ((uh A).ups hbn); replace R := hide ((uh R).ups hbn); replace S := hide ((uh S).ups hbn); replace C := hide ((uh C).ups hbn); replace S1 := hide ((uh S1).up hbn); replace RS := hide ((uh RS).up hbn); replace SK := hide ((uh SK).up hbn); replace OJ := hide ((uh OJ).up hbn); replace OX := hide ((uh OX).up hbn); have sz8 := hide (hbn.size); replace BB := hide (below_y (uh BB) hbn); clear hbn; have X := hide Xx; clear Xx; have Xc0_4 := (uh X).cell 0 rfl; have Xc1_4 := (uh X).cell 1 rfl; have Xc2_4 := (uh X).cell 2 rfl; have Xc3_4 := (uh X).cell 3 rfl; have Xc4_4 := (uh X).cell 4 rfl; have Xc5_4 := (uh X).cell 5 rfl; have Xc6_4 := (uh X).cell 6 rfl
   go_wp2
   clear Xc0_4 Xc1_4 Xc2_4 Xc3_4 Xc4_4 Xc5_4 Xc6_4 EX
   obtain ⟨REL, HREL⟩ : ∃ REL : Value → Value → World → Prop, Hid (REL = fun c i wr => ∃ k : Nat, k ≤ a.mails.length ∧ c = .int .i64 (inCnt set a k : Nat) ∧ i = .int .i64 k ∧ HasObj wr (w.heap.size) 30 [.slice a1 n c1, .int .i64 s.valid] ∧ HasObj wr (wu1.heap.size) 30 [.slice none 0 0, .int .i64 0] ∧ HasObj wr (wu3.heap.size) 30 [.slice ak n ck, .int .i64 s.valid] ∧ HasObj wr (wu5.heap.size) 30 [.slice aC z.boxes.length cC, .int .i64 z.valid] ∧ HasObj wr (wu7.heap.size) 46 [.string a.name, .int .i64 a.valid, .int .i64 a.next, .int .i64 a.mod, .slice amX a.mails.length cmX, .slice atX a.tombs.length ctX, .int .i64 a.hor] ∧ OwnBx w.heap.size wr (.slice amX a.mails.length cmX) (.slice atX a.tombs.length ctX) a ∧ OwnBs B wr (.slice a1 n c1) L ∧ OwnBs w.heap.size wr (.slice ak n ck) KL ∧ OwnBs w.heap.size wr (.slice aC z.boxes.length cC) J ∧ OwnR B2 wr vs set ∧ Below w.heap.size w wr) := ⟨_, rfl⟩
   go_loopw [15, 16] (fun c i wr => REL c i wr) (fun _ i _ => a.mails.length - (intOf i).toNat)
   case atStart => rw [uh HREL]; exact ⟨0, Nat.zero_le _, rfl, rfl, uh A, uh R, uh S, uh C, uh X, uh OX, uh S1, uh SK, uh OJ, uh RS, uh BB⟩
   clear A R S C X OX S1 SK OJ RS BB
   case round =>
    rw [uh HREL] at hrel
    obtain ⟨k, hk, rfl, rfl, qA, qR, qS, qC, qX, qOX, qS1, qSK, qOJ, qRS, qBB⟩ := hrel
    obtain ⟨wo, hwo⟩ : ∃ wo, wo = wr := ⟨_, rfl⟩
    subst hwo
    have LC := inCnt_le set a k
    by_cases hlt : k < a.mails.length
    ·have hgk : a.mails[k]? = some a.mails[k] := List.getElem?_eq_getElem hlt
     obtain ⟨gb, qb, e1, _, c0, c1, c2, c3⟩ := ml_read qOX.1 (Below.refl _ _) hgk
     have e3 := (Value.slice.inj e1).1; clear e1
     subst e3
     have HGK := hide hgk
     generalize a.mails[k] = f at *
     clear hgk; have A := hide qA; have R := hide qR; have S := hide qS; have C := hide qC; have X := hide qX; have OX := hide qOX; have S1 := hide qS1; have SK := hide qSK; have OJ := hide qOJ; have RS := hide qRS; have BB := hide qBB; clear qA qR qS qC qX qOX qS1 qSK qOJ qRS qBB
     have i1 : (0 : Int) ≤ (k : Int) := by omega
     have i2 : (k : Int) < (a.mails.length : Int) := by omega
     have Xc0_5 := (uh X).cell 0 rfl; have Xc1_5 := (uh X).cell 1 rfl; have Xc2_5 := (uh X).cell 2 rfl; have Xc3_5 := (uh X).cell 3 rfl; have Xc4_5 := (uh X).cell 4 rfl; have Xc5_5 := (uh X).cell 5 rfl; have Xc6_5 := (uh X).cell 6 rfl; go_wp2_with fail; clear Xc0_5 Xc1_5 Xc2_5 Xc3_5 Xc4_5 Xc5_5 Xc6_5 c0 c1 c2 c3
     refine (setHasS_held set f.uid vs _ _ hs (uh RS)).mono ?_
     rintro e wur1 ⟨rfl, hb⟩
     replace A := hide ((uh A).ups hb); replace R := hide ((uh R).ups hb); replace S := hide ((uh S).ups hb); replace C := hide ((uh C).ups hb); replace X := hide ((uh X).ups hb); replace S1 := hide ((uh S1).up hb); replace RS := hide ((uh RS).up hb); replace SK := hide ((uh SK).up hb); replace OJ := hide ((uh OJ).up hb); replace OX := hide ((uh OX).up hb); have sz201 := hide (hb.size); replace BB := hide (below_y (uh BB) hb); clear hb
     cases hd : hasB set f.uid with
     | false =>
      have NC := hide (inCnt_no (uh HGK) hd); clear hd
      go_wp2
      go_roundw
      case rel => rw [uh HREL]; exact ⟨k + 1, by omega, by rw [uh NC], by go_num, uh A, uh R, uh S, uh C, uh X, uh OX, uh S1, uh SK, uh OJ, uh RS, uh BB⟩
      case measure => simp [intOf]; omega
     | true =>
      have NC := hide (inCnt_yes (uh HGK) hd); clear hd
      go_wp2
      go_roundw
      case rel => rw [uh HREL]; exact ⟨k + 1, by omega, by rw [uh NC]; go_num, by go_num, uh A, uh R, uh S, uh C, uh X, uh OX, uh S1, uh SK, uh OJ, uh RS, uh BB⟩
      case measure => simp [intOf]; omega
    ·obtain rfl : k = a.mails.length := by omega
     have A := hide qA; have R := hide qR; have S := hide qS; have C := hide qC; have X := hide qX; have OX := hide qOX; have S1 := hide qS1; have SK := hide qSK; have OJ := hide qOJ; have RS := hide qRS; have BB := hide qBB; clear qA qR qS qC qX qOX qS1 qSK qOJ qRS qBB
     obtain ⟨n9, hn9⟩ : ∃ n9, n9 = (inSet set a).length := ⟨_, rfl⟩
     have ec : inCnt set a a.mails.length = n9 := by rw [hn9]; unfold inCnt inSet; rw [List.take_length]
     rw [ec]
     rw [← hn9] at TE
     clear ec hn9 hlt hk LC
     obtain ⟨fb, hfb⟩ : ∃ fb, fb = (flagsV a set 2 8 (-1)).1 := ⟨_, rfl⟩
     have OKF : Hid (boxOk fb = true) := by show _ = _; rw [hfb]; exact flags_keeps (uh HOKA)
     have FF := hide (fit_ok (uh OKF)); have HFB := hide hfb
     obtain ⟨c, gone, hcg⟩ : ∃ c gone, (c, gone) = expV fb set := ⟨_, _, rfl⟩
     have HCG := hide hcg
     have EC : takeV a set = (c, gone) := by unfold takeV; rw [← hfb, ← hcg]
     have OKC : Hid (boxOk c = true) := by show _ = _; have h9 := take_ok set (uh HOKA); rw [EC] at h9; exact h9
     have FC := hide (fit_ok (uh OKC))
     have GL : Hid (gone.length ≤ 1048576) := by show _ ≤ _; rw [show gone = (expV fb set).2 from congrArg Prod.snd hcg]; exact exp_small (uh OKF)
     rw [EC] at TE MV
     simp only at TE MV
     clear hfb hcg EC; have Xc0_5 := (uh X).cell 0 rfl; have Xc1_5 := (uh X).cell 1 rfl; have Xc2_5 := (uh X).cell 2 rfl; have Xc3_5 := (uh X).cell 3 rfl; have Xc4_5 := (uh X).cell 4 rfl; have Xc5_5 := (uh X).cell 5 rfl; have Xc6_5 := (uh X).cell 6 rfl; have Ac0_6 := (uh A).cell 0 rfl; have Ac1_6 := (uh A).cell 1 rfl; go_wp2_with fail; clear Xc0_5 Xc1_5 Xc2_5 Xc3_5 Xc4_5 Xc5_5 Xc6_5 Ac0_6 Ac1_6
     refine (spec_SetFlags_any a _ _ _ set vs 2 8 (-1) _ (uh FA) hs (uh RS).read (uh OX)).mono ?_
     rintro e wux1 ⟨mF, tF, vD, vL, rfl, oF, _, _, hb⟩
     rw [← uh HFB] at oF ⊢
     obtain ⟨amF, cmF, rfl⟩ := g_shape oF.1
     obtain ⟨atF, ctF, rfl⟩ := g_shape oF.2
     have OF_ := hide oF; clear oF; replace A := hide ((uh A).ups hb); replace R := hide ((uh R).ups hb); replace S := hide ((uh S).ups hb); replace C := hide ((uh C).ups hb); replace X := hide ((uh X).ups hb); replace S1 := hide ((uh S1).up hb); replace RS := hide ((uh RS).up hb); replace SK := hide ((uh SK).up hb); replace OJ := hide ((uh OJ).up hb); replace OX := hide ((uh OX).up hb); have sz201 := hide (hb.size); replace BB := hide (below_y (uh BB) hb); clear hb; have OF := OF_; clear OF_
     obtain ⟨wux2, hF⟩ : ∃ X, X = wux1.alloc (.cells ([.string fb.name, .int .i64 fb.valid, .int .i64 fb.next, .int .i64 fb.mod, .slice amF fb.mails.length cmF, .slice atF fb.tombs.length ctF, .int .i64 fb.hor] : List Value).toArray 46) := ⟨_, rfl⟩
     have Fx : HasObj wux2 wux1.heap.size 46 [.string fb.name, .int .i64 fb.valid, .int .i64 fb.next, .int .i64 fb.mod, .slice amF fb.mails.length cmF, .slice atF fb.tombs.length ctF, .int .i64 fb.hor] := by rw [hF]; exact HasObj.new _ _ _
     have hbn : Below wux1.heap.size wux1 wux2 := by rw [hF]; exact (Below.refl _ _).alloc (Nat.le_refl _) _
     have neAF : w.heap.size ≠ wux1.heap.size := Nat.ne_of_lt (uh A).lt
     have neRF : wu1.heap.size ≠ wux1.heap.size := Nat.ne_of_lt (uh R).lt
     have neSF : wu3.heap.size ≠ wux1.heap.size := Nat.ne_of_lt (uh S).lt
     have neCF : wu5.heap.size ≠ wux1.heap.size := Nat.ne_of_lt (uh C).lt
     have neXF : wu7.heap.size ≠ wux1.heap.size := Nat.ne_of_lt (uh X).lt
     have loF : w.heap.size ≤ wux1.heap.size := (uh BB).size
     have EF := hF.symm; clear hF; replace A := hide ((uh A).ups hbn); replace R := hide ((uh R).ups hbn); replace S := hide ((uh S).ups hbn); replace C := hide ((uh C).ups hbn); replace X := hide ((uh X).ups hbn); replace S1 := hide ((uh S1).up hbn); replace RS := hide ((uh RS).up hbn); replace SK := hide ((uh SK).up hbn); replace OJ := hide ((uh OJ).up hbn); replace OX := hide ((uh OX).up hbn); replace OF := hide ((uh OF).up hbn); have sz202 := hide (hbn.size); replace BB := hide (below_y (uh BB) hbn); clear hbn; have F := hide Fx; clear Fx; have Fc0_7 := (uh F).cell 0 rfl; have Fc1_7 := (uh F).cell 1 rfl; have Fc2_7 := (uh F).cell 2 rfl; have Fc3_7 := (uh F).cell 3 rfl; have Fc4_7 := (uh F).cell 4 rfl; have Fc5_7 := (uh F).cell 5 rfl; have Fc6_7 := (uh F).cell 6 rfl; go_wp2_with fail; clear Fc0_7 Fc1_7 Fc2_7 Fc3_7 Fc4_7 Fc5_7 Fc6_7 EF
     refine (spec_Expunge_any fb _ _ _ set vs _ (uh FF) hs (uh RS).read (uh OF)).mono ?_
     rintro e wux3 ⟨mE, tE, vG, rfl, oE, oG, hb⟩
     rw [← uh HCG] at oE oG ⊢
     simp only at oE oG ⊢
     obtain ⟨amE, cmE, rfl⟩ := g_shape oE.1
     obtain ⟨atE, ctE, rfl⟩ := g_shape oE.2
     have OE_ := hide oE; have OG_ := hide oG; clear oE oG; replace A := hide ((uh A).ups hb); replace R := hide ((uh R).ups hb); replace S := hide ((uh S).ups hb); replace C := hide ((uh C).ups hb); replace X := hide ((uh X).ups hb); replace F := hide ((uh F).ups hb); replace S1 := hide ((uh S1).up hb); replace RS := hide ((uh RS).up hb); replace SK := hide ((uh SK).up hb); replace OJ := hide ((uh OJ).up hb); replace OX := hide ((uh OX).up hb); replace OF := hide ((uh OF).up hb); have sz203 := hide (hb.size); replace BB := hide (below_y (uh BB) hb); clear hb; have OE := OE_; have OG := OG_; clear OE_ OG_
     obtain ⟨wux4, hE⟩ : ∃ X, X = wux3.alloc (.cells ([.string c.name, .int .i64 c.valid, .int .i64 c.next, .int .i64 c.mod, .slice amE c.mails.length cmE, .slice atE c.tombs.length ctE, .int .i64 c.hor] : List Value).toArray 46) := ⟨_, rfl⟩
     have Ex : HasObj wux4 wux3.heap.size 46 [.string c.name, .int .i64 c.valid, .int .i64 c.next, .int .i64 c.mod, .slice amE c.mails.length cmE, .slice atE c.tombs.length ctE, .int .i64 c.hor] := by rw [hE]; exact HasObj.new _ _ _
     have hbn : Below wux3.heap.size wux3 wux4 := by rw [hE]; exact (Below.refl _ _).alloc (Nat.le_refl _) _
     have neAE : w.heap.size ≠ wux3.heap.size := Nat.ne_of_lt (uh A).lt
     have neRE : wu1.heap.size ≠ wux3.heap.size := Nat.ne_of_lt (uh R).lt
     have neSE : wu3.heap.size ≠ wux3.heap.size := Nat.ne_of_lt (uh S).lt
     have neCE : wu5.heap.size ≠ wux3.heap.size := Nat.ne_of_lt (uh C).lt
     have neXE : wu7.heap.size ≠ wux3.heap.size := Nat.ne_of_lt (uh X).lt
     have neFE : wux1.heap.size ≠ wux3.heap.size := Nat.ne_of_lt (uh F).lt
     have loE : w.heap.size ≤ wux3.heap.size := (uh BB).size
     have EE := hE.symm; clear hE; replace A := hide ((uh A).ups hbn); replace R := hide ((uh R).ups hbn); replace S := hide ((uh S).ups hbn); replace C := hide ((uh C).ups hbn); replace X := hide ((uh X).ups hbn); replace F := hide ((uh F).ups hbn); replace S1 := hide ((uh S1).up hbn); replace RS := hide ((uh RS).up hbn); replace SK := hide ((uh SK).up hbn); replace OJ := hide ((uh OJ).up hbn); replace OX := hide ((uh OX).up hbn); replace OF := hide ((uh OF).up hbn); replace OE := hide ((uh OE).up hbn); replace OG := hide ((uh OG).up hbn); have sz204 := hide (hbn.size); replace BB := hide (below_y (uh BB) hbn); clear hbn; have E := hide Ex; clear Ex; go_wp2_with fail; clear EE
     refine (sizeM_held gone vG _ _ (uh GL) (uh OG)).mono ?_
     rintro e wux5 ⟨rfl, hb⟩
     replace A := hide ((uh A).ups hb); replace R := hide ((uh R).ups hb); replace S := hide ((uh S).ups hb); replace C := hide ((uh C).ups hb); replace X := hide ((uh X).ups hb); replace F := hide ((uh F).ups hb); replace E := hide ((uh E).ups hb); replace S1 := hide ((uh S1).up hb); replace RS := hide ((uh RS).up hb); replace SK := hide ((uh SK).up hb); replace OJ := hide ((uh OJ).up hb); replace OX := hide ((uh OX).up hb); replace OF := hide ((uh OF).up hb); replace OE := hide ((uh OE).up hb); replace OG := hide ((uh OG).up hb); have sz205 := hide (hb.size); replace BB := hide (below_y (uh BB) hb); clear hb
     by_cases hin : inSet set c = []
     ·have d9 : (sizeL gone == (n9 : Int)) = true := by rw [uh TE]; exact decide_eq_true hin
      rw [if_pos hin] at MV
      clear hin; have Cc0_8 := (uh C).cell 0 rfl; have Cc1_8 := (uh C).cell 1 rfl; have Ec0_9 := (uh E).cell 0 rfl; have Ec1_9 := (uh E).cell 1 rfl; have Ec2_9 := (uh E).cell 2 rfl; have Ec3_9 := (uh E).cell 3 rfl; have Ec4_9 := (uh E).cell 4 rfl; have Ec5_9 := (uh E).cell 5 rfl; have Ec6_9 := (uh E).cell 6 rfl; go_wp2_with fail; clear Cc0_8 Cc1_8 Ec0_9 Ec1_9 Ec2_9 Ec3_9 Ec4_9 Ec5_9 Ec6_9
      have LO9 : w.heap.size ≤ wux5.heap.size := (uh BB).size
      refine (spec_PutBox_any z c _ _ _ _ _ _ (uh FZ) (uh FC) ⟨J, uh HJ, uh OJ⟩ (uh OE)).mono ?_
      rintro e wuy6 ⟨v9, rfl, o9, hb⟩
      obtain ⟨a9, c9, rfl⟩ := o9.shape
      obtain ⟨Q, hQ, oQ⟩ := o9
      have OQ_ := hide (oQ.based LO9); have HQ := hide hQ
      rw [putX_len] at OQ_ ⊢
      clear oQ hQ; replace A := hide ((uh A).ups hb); replace R := hide ((uh R).ups hb); replace S := hide ((uh S).ups hb); replace C := hide ((uh C).ups hb); replace X := hide ((uh X).ups hb); replace F := hide ((uh F).ups hb); replace E := hide ((uh E).ups hb); replace S1 := hide ((uh S1).up hb); replace RS := hide ((uh RS).up hb); replace SK := hide ((uh SK).up hb); replace OJ := hide ((uh OJ).up hb); replace OX := hide ((uh OX).up hb); replace OF := hide ((uh OF).up hb); replace OE := hide ((uh OE).up hb); replace OG := hide ((uh OG).up hb); have sz206 := hide (hb.size); replace BB := hide (below_y (uh BB) hb); clear hb; have OQ := OQ_; clear OQ_; have Rf0 := (uh R).frozen 0; have Rf1 := (uh R).frozen 1; have Re0 := (uh R).cell 0 rfl; have Re1 := (uh R).cell 1 rfl; have F := hide (fill2 (uh R) (.slice a9 z.boxes.length c9) (.int .i64 z.valid))
      obtain ⟨U, hU⟩ : ∃ U, U = ((wuy6.setCell ⟨wu1.heap.size, 0, none⟩ (.slice a9 z.boxes.length c9)).setCell ⟨wu1.heap.size, 1, none⟩ (.int .i64 z.valid)) := ⟨_, rfl⟩
      have F9 := uh F
      rw [← hU] at F9
      have EU := hU.symm; clear F hU; have v0 := F9.obj.cell 0 rfl; have v1 := F9.obj.cell 1 rfl; have F := hide F9; clear F9
      go_wp2_with (refine bodyPost_ret (by simp [results, Tryz.results6, go_sem, v0, v1]; try rfl) rfl ?_)
      clear EU; have F := uh F
      rw [uh MV]
      exact ⟨_, rfl, ⟨Q, uh HQ, ⟨F.row (by decide) (uh OQ).row, fun x hx => ⟨F.row (by decide) ((uh OQ).each x hx).1, F.row (by decide) ((uh OQ).each x hx).2⟩⟩⟩, F.below loR (uh BB)⟩
     ·have d9 : (sizeL gone == (n9 : Int)) = false := by rw [uh TE]; exact decide_eq_false hin
      rw [if_neg hin] at MV
      clear hin
      have ANS : Hid (moveV s src set dst = (s, 3)) := uh MV
      have Sc0_8 := (uh S).cell 0 rfl; have Sc1_8 := (uh S).cell 1 rfl; have Rf0 := (uh R).frozen 0; have Rf1 := (uh R).frozen 1; have Re0 := (uh R).cell 0 rfl; have Re1 := (uh R).cell 1 rfl; have F := hide (fill2 (uh R) (.slice ak n ck) (.int .i64 s.valid))
      obtain ⟨U, hU⟩ : ∃ U, U = ((wux5.setCell ⟨wu1.heap.size, 0, none⟩ (.slice ak n ck)).setCell ⟨wu1.heap.size, 1, none⟩ (.int .i64 s.valid)) := ⟨_, rfl⟩
      have F9 := uh F
      rw [← hU] at F9
      have EU := hU.symm; clear F hU; have v0 := F9.obj.cell 0 rfl; have v1 := F9.obj.cell 1 rfl; have F := hide F9; clear F9
      go_wp2_with (refine bodyPost_ret (by simp [results, Tryz.results6, go_sem, v0, v1]; try rfl) rfl ?_)
      clear EU; have F := uh F
      rw [uh ANS]
      exact ⟨_, rfl, ⟨KL, uh HK, ⟨F.row (by decide) (uh SK).row, fun x hx => ⟨F.row (by decide) ((uh SK).each x hx).1, F.row (by decide) ((uh SK).each x hx).2⟩⟩⟩, F.below loR (uh BB)⟩
  ·have d0 : (code == 0) = false := beq_eq_false_iff_ne.2 hc
   have CEN : ¬ (copyV s src set dst).2 = 0 := by rw [← congrArg Prod.snd (uh HZC)]; exact hc
   have EC9 : Hid ((copyV s src set dst).2 = code) := (congrArg Prod.snd (uh HZC)).symm
   have MC := hide (moveV_code (uh HNE) CEN)
   rw [uh EC9] at MC
   clear hc CEN
   have ANS : Hid (moveV s src set dst = (s, code)) := uh MC
   have Sc0_3 := (uh S).cell 0 rfl; have Sc1_3 := (uh S).cell 1 rfl; have Rf0 := (uh R).frozen 0; have Rf1 := (uh R).frozen 1; have Re0 := (uh R).cell 0 rfl; have Re1 := (uh R).cell 1 rfl; have F := hide (fill2 (uh R) (.slice ak n ck) (.int .i64 s.valid))
   obtain ⟨U, hU⟩ : ∃ U, U = ((wu6.setCell ⟨wu1.heap.size, 0, none⟩ (.slice ak n ck)).setCell ⟨wu1.heap.size, 1, none⟩ (.int .i64 s.valid)) := ⟨_, rfl⟩
   have F9 := uh F
   rw [← hU] at F9
   have EU := hU.symm; clear F hU; have v0 := F9.obj.cell 0 rfl; have v1 := F9.obj.cell 1 rfl; have F := hide F9; clear F9
   go_wp2_with (refine bodyPost_ret (by simp [results, Tryz.results6, go_sem, v0, v1]; try rfl) rfl ?_)
   clear EU; have F := uh F
   rw [uh ANS]
   exact ⟨_, rfl, ⟨KL, uh HK, ⟨F.row (by decide) (uh SK).row, fun x hx => ⟨F.row (by decide) ((uh SK).each x hx).1, F.row (by decide) ((uh SK).each x hx).2⟩⟩⟩, F.below loR (uh BB)⟩
end Go.Proofs.YtecognggnbopaacGreat
