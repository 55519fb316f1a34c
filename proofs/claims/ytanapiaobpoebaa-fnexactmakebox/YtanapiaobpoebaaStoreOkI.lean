/- The program's StoreOk. Made by gen_stores.py. -/
import Derived.Test.YtanapiaobpoebaaTv
import Derived.Test.YtanapiaobpoebaaStorePlain
import Derived.Test.YtanapiaobpoebaaStoreMarks
import Derived.Test.YtanapiaobpoebaaBoxI
import Derived.Test.YtanapiaobpoebaaBoxNameI
import Derived.Test.YtanapiaobpoebaaRegA
namespace Go.Proofs.Ytanapiaobpoebaa
open Go.RowKit
open Plain
set_option linter.unusedVariables false
set_option linter.unusedSimpArgs false

set_option maxHeartbeats 8000000 in
set_option maxRecDepth 100000 in
theorem impl_StoreOk_any (s : Sx) (v : Value) (B : Nat) (w : World) (hf : FitSt s) (h : ReadSt B w v s.boxes) :
  Calls Try.prog 18 #[.agg #[v, .int .i64 s.valid]] w fun e w' => e = .returned (.bool (storeOk s)) ∧ Below w.heap.size w w' := by
 obtain ⟨L, hL, h⟩ := h
 obtain ⟨a1, c1, rfl⟩ := g_shape h.row
 obtain ⟨n, hn⟩ : ∃ n, n = s.boxes.length := ⟨_, rfl⟩
 have hn1 : L.length = n := by rw [hn, ← hL, List.length_map]
 have hnl := hf.len
 rw [← hn] at hnl
 have S1 := hide h
 rw [hn1] at S1 ⊢
 have FE := hide hf.each; have HL := hide hL; have HN := hide hn; have HN1 := hide hn1; clear h hL hn hn1 hf
 have b1 : ∀ t a b, binOp .geq t (.string a) (.string b) = pure (.bool (!ltB a b)) := fun t a b => by simp [binOp, Op.stringOp, ltB]
 have b2 : ∀ t a b, binOp .leq t (.string a) (.string b) = pure (.bool (!ltB b a)) := fun t a b => by simp [binOp, Op.stringOp, leB]
 have BB := hide (Below.refl w.heap.size w)
 obtain ⟨wi1, hA⟩ : ∃ X, X = w.alloc (.cells ([.slice a1 n c1, .int .i64 s.valid] : List Value).toArray 28) := ⟨_, rfl⟩
 have Ax : HasObj wi1 w.heap.size 28 [.slice a1 n c1, .int .i64 s.valid] := by rw [hA]; exact HasObj.new _ _ _
 have hbn : Below w.heap.size w wi1 := by rw [hA]; exact (Below.refl _ _).alloc (Nat.le_refl _) _
 have loA : w.heap.size ≤ w.heap.size := (uh BB).size
 have EA := hA.symm; clear hA; replace S1 := hide ((uh S1).up hbn); have sz1 := hide (hbn.size); replace BB := hide (below_y (uh BB) hbn); clear hbn; have A := hide Ax; clear Ax; have Ac0_1 := (uh A).cell 0 rfl; have Ac1_1 := (uh A).cell 1 rfl
 go_enter Try.func18, Try.ntmps18
 cases hi1 : inI (n : Int) 1 4 with
 | false =>
  have Ac0_2 := (uh A).cell 0 rfl; have Ac1_2 := (uh A).cell 1 rfl
  have HV : Hid (storeOk s = false) := by show _ = _; unfold storeOk; rw [← uh HN, hi1, Bool.and_false, Bool.false_and]
  go_wp2_with fail; clear Ac0_1 Ac1_1 Ac0_2 Ac1_2 EA
  refine (impl_within_any (n : Int) 1 4 _).mono ?_
  rintro e w5 ⟨rfl, hw⟩
  subst w5
  rw [hi1]
  go_wp2
  go_ret
  exact ⟨by rw [uh HV]; rfl, uh BB⟩
 | true =>
  go_wp2_with fail; clear Ac0_1 Ac1_1 EA
  refine (impl_within_any (n : Int) 1 4 _).mono ?_
  rintro e w5 ⟨rfl, hw⟩
  subst w5
  rw [hi1]
  have Ac0_2 := (uh A).cell 0 rfl; have Ac1_2 := (uh A).cell 1 rfl
  cases hi2 : inI s.valid 2 9999 with
  | false =>
   have HV : Hid (storeOk s = false) := by show _ = _; unfold storeOk; rw [hi2, Bool.and_false]
   go_wp2_with fail; clear Ac0_2 Ac1_2
   refine (impl_within_any s.valid 2 9999 _).mono ?_
   rintro e w5 ⟨rfl, hw⟩
   subst w5
   rw [hi2]
   go_wp2
   go_ret
   exact ⟨by rw [uh HV]; rfl, uh BB⟩
  | true =>
   go_wp2_with fail; clear Ac0_2 Ac1_2
   refine (impl_within_any s.valid 2 9999 _).mono ?_
   rintro e w5 ⟨rfl, hw⟩
   subst w5
   rw [hi2]
   have Ac0_3 := (uh A).cell 0 rfl; have Ac1_3 := (uh A).cell 1 rfl; have HI1 := hide hi1; have HI2 := hide hi2; clear hi1 hi2
   go_wp2
   clear Ac0_3 Ac1_3
   go_loopw [19] (fun i wr => ∃ k : Nat, k ≤ n ∧ i = .int .i64 k ∧ HasObj wr (w.heap.size) 28 [.slice a1 n c1, .int .i64 s.valid] ∧ OwnBs B wr (.slice a1 n c1) L ∧ okTo s k = true ∧ Below w.heap.size w wr) (fun i _ => n - (intOf i).toNat)
   case atStart => exact ⟨0, Nat.zero_le _, rfl, uh A, uh S1, okTo_zero s, uh BB⟩
   clear S1 BB A
   case round =>
    obtain ⟨k, hk, rfl, oA, o1, hok, hbel⟩ := hrel
    obtain ⟨wo, hwo⟩ : ∃ wo, wo = wr := ⟨_, rfl⟩
    subst hwo
    have OKK := hide hok; clear hok
    by_cases hlt : k < n
    ·have hkl : k < L.length := by rw [uh HN1]; exact hlt
     have hx : L[k]? = some L[k] := List.getElem?_eq_getElem hkl
     have hbx : s.boxes[k]? = some L[k].b := by rw [← uh HL, List.getElem?_map, hx]; rfl
     have hmx := List.getElem_mem hkl; have hfx := uh FE _ (List.mem_of_getElem? hbx)
     obtain ⟨g1, q1, e3, _, _, _⟩ := br_read o1.row hx
     have e5 := (Value.slice.inj e3).1; clear e3
     subst e5
     generalize L[k] = x at *
     obtain ⟨b, m, t⟩ := x
     simp only at hbx hfx
     obtain ⟨am, cm, ee1⟩ := g_shape (o1.each _ hmx).1
     obtain ⟨at1, ct1, ee2⟩ := g_shape (o1.each _ hmx).2
     simp only at ee1 ee2
     subst ee1 ee2
     have A := hide oA; clear oA; have S1 := hide o1; have BB := hide hbel; have X1 := hide hx; have XB := hide hbx; have M1 := hide hmx; have FX := hide hfx; clear o1 hbel hx hbx hmx hfx
     have i1 : (0 : Int) ≤ (k : Int) := by omega
     have i2 : (k : Int) < (n : Int) := by omega
     have ec0_4 := (br_of (uh S1).row (uh X1)).1
     simp only at ec0_4
     have ec1_4 := (br_of (uh S1).row (uh X1)).2.1
     simp only at ec1_4
     have ec2_4 := (br_of (uh S1).row (uh X1)).2.2.1
     simp only at ec2_4
     have ec3_4 := (br_of (uh S1).row (uh X1)).2.2.2.1
     simp only at ec3_4
     have ec4_4 := (br_of (uh S1).row (uh X1)).2.2.2.2.1
     simp only at ec4_4
     have ec5_4 := (br_of (uh S1).row (uh X1)).2.2.2.2.2.1
     simp only at ec5_4
     have ec6_4 := (br_of (uh S1).row (uh X1)).2.2.2.2.2.2
     simp only at ec6_4
     obtain ⟨wir1, hV⟩ : ∃ X, X = wo.alloc (.cells ([.string b.name, .int .i64 b.valid, .int .i64 b.next, .int .i64 b.mod, .slice am b.mails.length cm, .slice at1 b.tombs.length ct1, .int .i64 b.hor] : List Value).toArray 42) := ⟨_, rfl⟩
     have Vx : HasObj wir1 wo.heap.size 42 [.string b.name, .int .i64 b.valid, .int .i64 b.next, .int .i64 b.mod, .slice am b.mails.length cm, .slice at1 b.tombs.length ct1, .int .i64 b.hor] := by rw [hV]; exact HasObj.new _ _ _
     have hbn : Below wo.heap.size wo wir1 := by rw [hV]; exact (Below.refl _ _).alloc (Nat.le_refl _) _
     have neAV : w.heap.size ≠ wo.heap.size := Nat.ne_of_lt (uh A).lt
     have loV : w.heap.size ≤ wo.heap.size := (uh BB).size
     have EV := hV.symm; clear hV; replace A := hide ((uh A).ups hbn); replace S1 := hide ((uh S1).up hbn); have sz101 := hide (hbn.size); replace BB := hide (below_y (uh BB) hbn); clear hbn; have V := hide Vx; clear Vx
     cases hbo : boxOk b with
     | false =>
      have HV : Hid (storeOk s = false) := storeOk_no (k := k) (by rw [← uh HN]; exact hlt) (okB_box (uh XB) hbo)
      have Ac0_5 := (uh A).cell 0 rfl; have Ac1_5 := (uh A).cell 1 rfl; have Vc0_6 := (uh V).cell 0 rfl; have Vc1_6 := (uh V).cell 1 rfl; have Vc2_6 := (uh V).cell 2 rfl; have Vc3_6 := (uh V).cell 3 rfl; have Vc4_6 := (uh V).cell 4 rfl; have Vc5_6 := (uh V).cell 5 rfl; have Vc6_6 := (uh V).cell 6 rfl
      go_wp2
      clear ec0_4 ec1_4 ec2_4 ec3_4 ec4_4 ec5_4 ec6_4 Ac0_5 Ac1_5 Vc0_6 Vc1_6 Vc2_6 Vc3_6 Vc4_6 Vc5_6 Vc6_6 EV
      refine wp_region_held_drew (S := fun w' => w'.cell? ⟨w.heap.size, 0, none⟩ = some (.slice (some ⟨g1, 0, none⟩) n c1) ∧ w'.cell? ⟨w.heap.size, 1, none⟩ = some (.int .i64 s.valid) ∧ w'.cell? ⟨wo.heap.size, 0, none⟩ = some (.string b.name) ∧ w'.cell? ⟨wo.heap.size, 1, none⟩ = some (.int .i64 b.valid) ∧ w'.cell? ⟨wo.heap.size, 2, none⟩ = some (.int .i64 b.next) ∧ w'.cell? ⟨wo.heap.size, 3, none⟩ = some (.int .i64 b.mod) ∧ w'.cell? ⟨wo.heap.size, 4, none⟩ = some (.slice am b.mails.length cm) ∧ w'.cell? ⟨wo.heap.size, 5, none⟩ = some (.slice at1 b.tombs.length ct1) ∧ w'.cell? ⟨wo.heap.size, 6, none⟩ = some (.int .i64 b.hor)) (by kernel_rfl) (⟨(uh A).cell 0 rfl, (uh A).cell 1 rfl, (uh V).cell 0 rfl, (uh V).cell 1 rfl, (uh V).cell 2 rfl, (uh V).cell 3 rfl, (uh V).cell 4 rfl, (uh V).cell 5 rfl, (uh V).cell 6 rfl⟩) (fun hHeld => ?_)
      replace A := hide ((uh A).drew); replace V := hide ((uh V).drew); replace S1 := hide ((uh S1).drew); replace BB := hide ((uh BB).drew)
      have sz102 : Hid (wir1.heap.size ≤ wir1.drew.heap.size) := Nat.le_refl _
      refine tv 0 24 ?_
      refine wpAnyH_ready (rs := [1]) (by kernel_rfl) (by simp) ?_
      refine AllReadyH.cons rfl (fun K hK => ?_) AllReadyH.nil
      go_simp
      refine (impl_BoxOk_any b _ _ B _ (uh FX) ((uh S1).each _ (uh M1))).mono ?_
      rintro e wira2 ⟨rfl, hb⟩
      rw [hbo]
      replace A := hide ((uh A).ups hb); replace V := hide ((uh V).ups hb); replace S1 := hide ((uh S1).up hb); have sz103 := hide (hb.size); replace BB := hide (below_y (uh BB) hb); clear hb; go_wp2_with fail
      refine hK.out _ _ (⟨(uh A).cell 0 rfl, (uh A).cell 1 rfl, (uh V).cell 0 rfl, (uh V).cell 1 rfl, (uh V).cell 2 rfl, (uh V).cell 3 rfl, (uh V).cell 4 rfl, (uh V).cell 5 rfl, (uh V).cell 6 rfl⟩) (fun hHeld2 => ?_)
      clear hK K hHeld; have hHeld := hHeld2; clear hHeld2
      try simp only [Act.put, p1, p2, p3]
      refine tv 2 26 ?_; refine tv 3 27 ?_; refine tk 4 28 ?_; refine tk 5 29 ?_; refine tk 6 30 ?_; refine tk 7 31 ?_; refine tk 8 32 ?_; refine tv 9 33 ?_; refine tv 10 34 ?_; refine tk 11 35 ?_; refine tk 12 36 ?_; refine tk 13 37 ?_; refine tk 14 38 ?_; refine tk 15 39 ?_; refine tk 16 40 ?_; refine tk 17 41 ?_; refine tk 18 42 ?_; refine tk 19 43 ?_; refine tk 20 44 ?_; refine tk 21 45 ?_; refine tk 22 46 ?_; refine tk 23 47 ?_; refine tk 24 48 ?_; refine tv 25 49 ?_
      refine wpAnyH_done (by kernel_rfl) ?_ _
      go_wp2
      go_ret
      exact ⟨by rw [uh HV]; rfl, uh BB⟩
     | true =>
      by_cases hv : b.valid < s.valid
      ·have dv : decide (s.valid ≤ b.valid) = false := decide_eq_false (by omega)
       by_cases hz : k = 0
       ·have OKB : Hid (okB s k = true) := by have xb := uh XB; subst hz; show _ = _; rw [okB_first xb, hbo, decide_eq_true hv]; rfl
        have n2 : decide (0 < k) = false := decide_eq_false (by omega)
        clear hv hz; have Ac0_5 := (uh A).cell 0 rfl; have Ac1_5 := (uh A).cell 1 rfl; have Vc0_6 := (uh V).cell 0 rfl; have Vc1_6 := (uh V).cell 1 rfl; have Vc2_6 := (uh V).cell 2 rfl; have Vc3_6 := (uh V).cell 3 rfl; have Vc4_6 := (uh V).cell 4 rfl; have Vc5_6 := (uh V).cell 5 rfl; have Vc6_6 := (uh V).cell 6 rfl
        go_wp2
        clear ec0_4 ec1_4 ec2_4 ec3_4 ec4_4 ec5_4 ec6_4 Ac0_5 Ac1_5 Vc0_6 Vc1_6 Vc2_6 Vc3_6 Vc4_6 Vc5_6 Vc6_6 EV
        refine wp_region_held_drew (S := fun w' => w'.cell? ⟨w.heap.size, 0, none⟩ = some (.slice (some ⟨g1, 0, none⟩) n c1) ∧ w'.cell? ⟨w.heap.size, 1, none⟩ = some (.int .i64 s.valid) ∧ w'.cell? ⟨wo.heap.size, 0, none⟩ = some (.string b.name) ∧ w'.cell? ⟨wo.heap.size, 1, none⟩ = some (.int .i64 b.valid) ∧ w'.cell? ⟨wo.heap.size, 2, none⟩ = some (.int .i64 b.next) ∧ w'.cell? ⟨wo.heap.size, 3, none⟩ = some (.int .i64 b.mod) ∧ w'.cell? ⟨wo.heap.size, 4, none⟩ = some (.slice am b.mails.length cm) ∧ w'.cell? ⟨wo.heap.size, 5, none⟩ = some (.slice at1 b.tombs.length ct1) ∧ w'.cell? ⟨wo.heap.size, 6, none⟩ = some (.int .i64 b.hor)) (by kernel_rfl) (⟨(uh A).cell 0 rfl, (uh A).cell 1 rfl, (uh V).cell 0 rfl, (uh V).cell 1 rfl, (uh V).cell 2 rfl, (uh V).cell 3 rfl, (uh V).cell 4 rfl, (uh V).cell 5 rfl, (uh V).cell 6 rfl⟩) (fun hHeld => ?_)
        replace A := hide ((uh A).drew); replace V := hide ((uh V).drew); replace S1 := hide ((uh S1).drew); replace BB := hide ((uh BB).drew)
        have sz102 : Hid (wir1.heap.size ≤ wir1.drew.heap.size) := Nat.le_refl _
        refine tv 0 24 ?_
        refine wpAnyH_ready (rs := [1]) (by kernel_rfl) (by simp) ?_
        refine AllReadyH.cons rfl (fun K hK => ?_) AllReadyH.nil
        go_simp
        refine (impl_BoxOk_any b _ _ B _ (uh FX) ((uh S1).each _ (uh M1))).mono ?_
        rintro e wirvz2 ⟨rfl, hb⟩
        rw [hbo]
        replace A := hide ((uh A).ups hb); replace V := hide ((uh V).ups hb); replace S1 := hide ((uh S1).up hb); have sz103 := hide (hb.size); replace BB := hide (below_y (uh BB) hb); clear hb; go_wp2_with fail
        refine hK.out _ _ (⟨(uh A).cell 0 rfl, (uh A).cell 1 rfl, (uh V).cell 0 rfl, (uh V).cell 1 rfl, (uh V).cell 2 rfl, (uh V).cell 3 rfl, (uh V).cell 4 rfl, (uh V).cell 5 rfl, (uh V).cell 6 rfl⟩) (fun hHeld2 => ?_)
        clear hK K hHeld; have hHeld := hHeld2; clear hHeld2
        try simp only [Act.put, p1, p2, p3]
        refine tv 2 26 ?_; refine tv 3 27 ?_; refine tv 4 28 ?_; refine tv 5 29 ?_; refine tv 6 30 ?_; refine tv 7 31 ?_; refine tv 8 32 ?_; refine tv 9 33 ?_; refine tv 10 34 ?_; refine tv 11 35 ?_; refine tv 12 36 ?_; refine tv 13 37 ?_; refine tk 14 38 ?_; refine tk 15 39 ?_; refine tk 16 40 ?_; refine tk 17 41 ?_; refine tk 18 42 ?_; refine tk 19 43 ?_; refine tk 20 44 ?_; refine tk 21 45 ?_; refine tk 22 46 ?_; refine tk 23 47 ?_; refine tv 24 48 ?_; refine tv 25 49 ?_
        refine wpAnyH_done (by kernel_rfl) ?_ _
        go_wp2
        go_roundw
        case rel => exact ⟨k + 1, by omega, by go_num, uh A, uh S1, by rw [okTo_succ, uh OKK, uh OKB]; rfl, uh BB⟩
        case measure => simp [intOf]; omega
       ·obtain ⟨j, hkj⟩ : ∃ j, k = j + 1 := ⟨k - 1, by omega⟩
        have hjl : j < L.length := by rw [uh HN1]; omega
        have hp : L[j]? = some L[j] := List.getElem?_eq_getElem hjl
        have hbp : s.boxes[j]? = some L[j].b := by rw [← uh HL, List.getElem?_map, hp]; rfl
        generalize L[j] = y at *
        obtain ⟨p, mp, tp⟩ := y
        simp only at hbp
        have XP := hide hp; have BP := hide hbp; clear hp hbp hjl
        have n1 : IntKind.i64.wrap ((k : Int) - 1) = (j : Int) := by rw [IntKind.wrap_i64]; omega
        have n2 : decide (0 < k) = true := decide_eq_true (by omega)
        have i3 : (0 : Int) ≤ (j : Int) := by omega
        have i4 : (j : Int) < (n : Int) := by omega
        have OKN := hide (show okB s k = (boxOk b && decide (b.valid < s.valid) && ltB p.name b.name) from by have xb := uh XB; rw [hkj] at xb ⊢; exact okB_next xb (uh BP))
        rw [hbo, decide_eq_true hv] at OKN
        clear hkj hv hz
        cases hlb : ltB p.name b.name with
        | true =>
         rw [hlb] at OKN
         have OKB : Hid (okB s k = true) := uh OKN
         clear OKN; have Ac0_5 := (uh A).cell 0 rfl; have Ac1_5 := (uh A).cell 1 rfl; have Vc0_6 := (uh V).cell 0 rfl; have Vc1_6 := (uh V).cell 1 rfl; have Vc2_6 := (uh V).cell 2 rfl; have Vc3_6 := (uh V).cell 3 rfl; have Vc4_6 := (uh V).cell 4 rfl; have Vc5_6 := (uh V).cell 5 rfl; have Vc6_6 := (uh V).cell 6 rfl
         go_wp2
         clear ec0_4 ec1_4 ec2_4 ec3_4 ec4_4 ec5_4 ec6_4 Ac0_5 Ac1_5 Vc0_6 Vc1_6 Vc2_6 Vc3_6 Vc4_6 Vc5_6 Vc6_6 EV
         refine wp_region_held_drew (S := fun w' => w'.cell? ⟨w.heap.size, 0, none⟩ = some (.slice (some ⟨g1, 0, none⟩) n c1) ∧ w'.cell? ⟨w.heap.size, 1, none⟩ = some (.int .i64 s.valid) ∧ w'.cell? ⟨wo.heap.size, 0, none⟩ = some (.string b.name) ∧ w'.cell? ⟨wo.heap.size, 1, none⟩ = some (.int .i64 b.valid) ∧ w'.cell? ⟨wo.heap.size, 2, none⟩ = some (.int .i64 b.next) ∧ w'.cell? ⟨wo.heap.size, 3, none⟩ = some (.int .i64 b.mod) ∧ w'.cell? ⟨wo.heap.size, 4, none⟩ = some (.slice am b.mails.length cm) ∧ w'.cell? ⟨wo.heap.size, 5, none⟩ = some (.slice at1 b.tombs.length ct1) ∧ w'.cell? ⟨wo.heap.size, 6, none⟩ = some (.int .i64 b.hor) ∧ w'.cell? ⟨g1, j * 7, none⟩ = some (.string p.name)) (by kernel_rfl) (⟨(uh A).cell 0 rfl, (uh A).cell 1 rfl, (uh V).cell 0 rfl, (uh V).cell 1 rfl, (uh V).cell 2 rfl, (uh V).cell 3 rfl, (uh V).cell 4 rfl, (uh V).cell 5 rfl, (uh V).cell 6 rfl, (br_of (uh S1).row (uh XP)).1⟩) (fun hHeld => ?_)
         replace A := hide ((uh A).drew); replace V := hide ((uh V).drew); replace S1 := hide ((uh S1).drew); replace BB := hide ((uh BB).drew)
         have sz102 : Hid (wir1.heap.size ≤ wir1.drew.heap.size) := Nat.le_refl _
         refine tv 0 24 ?_
         refine wpAnyH_ready (rs := [1]) (by kernel_rfl) (by simp) ?_
         refine AllReadyH.cons rfl (fun K hK => ?_) AllReadyH.nil
         go_simp
         refine (impl_BoxOk_any b _ _ B _ (uh FX) ((uh S1).each _ (uh M1))).mono ?_
         rintro e wirvst2 ⟨rfl, hb⟩
         rw [hbo]
         replace A := hide ((uh A).ups hb); replace V := hide ((uh V).ups hb); replace S1 := hide ((uh S1).up hb); have sz103 := hide (hb.size); replace BB := hide (below_y (uh BB) hb); clear hb; go_wp2_with fail
         refine hK.out _ _ (⟨(uh A).cell 0 rfl, (uh A).cell 1 rfl, (uh V).cell 0 rfl, (uh V).cell 1 rfl, (uh V).cell 2 rfl, (uh V).cell 3 rfl, (uh V).cell 4 rfl, (uh V).cell 5 rfl, (uh V).cell 6 rfl, (br_of (uh S1).row (uh XP)).1⟩) (fun hHeld2 => ?_)
         clear hK K hHeld; have hHeld := hHeld2; clear hHeld2
         try simp only [Act.put, p1, p2, p3]
         refine tv 2 26 ?_; refine tv 3 27 ?_; refine tv 4 28 ?_; refine tv 5 29 ?_; refine tv 6 30 ?_; refine tv 7 31 ?_; refine tv 8 32 ?_; refine tv 9 33 ?_; refine tv 10 34 ?_; refine tv 11 35 ?_; refine tv 12 36 ?_; refine tv 13 37 ?_; refine tv 14 38 ?_; refine tv 15 39 ?_; refine tv 16 40 ?_; refine tv 17 41 ?_; refine tv 18 42 ?_; refine tv 19 43 ?_; refine tv 20 44 ?_; refine tv 21 45 ?_; refine tv 22 46 ?_; refine tv 23 47 ?_; refine tv 24 48 ?_; refine tv 25 49 ?_
         refine wpAnyH_done (by kernel_rfl) ?_ _
         go_wp2
         go_roundw
         case rel => exact ⟨k + 1, by omega, by go_num, uh A, uh S1, by rw [okTo_succ, uh OKK, uh OKB]; rfl, uh BB⟩
         case measure => simp [intOf]; omega
        | false =>
         rw [hlb] at OKN
         have HV : Hid (storeOk s = false) := storeOk_no (k := k) (by rw [← uh HN]; exact hlt) (uh OKN)
         clear OKN; have Ac0_5 := (uh A).cell 0 rfl; have Ac1_5 := (uh A).cell 1 rfl; have Vc0_6 := (uh V).cell 0 rfl; have Vc1_6 := (uh V).cell 1 rfl; have Vc2_6 := (uh V).cell 2 rfl; have Vc3_6 := (uh V).cell 3 rfl; have Vc4_6 := (uh V).cell 4 rfl; have Vc5_6 := (uh V).cell 5 rfl; have Vc6_6 := (uh V).cell 6 rfl
         go_wp2
         clear ec0_4 ec1_4 ec2_4 ec3_4 ec4_4 ec5_4 ec6_4 Ac0_5 Ac1_5 Vc0_6 Vc1_6 Vc2_6 Vc3_6 Vc4_6 Vc5_6 Vc6_6 EV
         refine wp_region_held_drew (S := fun w' => w'.cell? ⟨w.heap.size, 0, none⟩ = some (.slice (some ⟨g1, 0, none⟩) n c1) ∧ w'.cell? ⟨w.heap.size, 1, none⟩ = some (.int .i64 s.valid) ∧ w'.cell? ⟨wo.heap.size, 0, none⟩ = some (.string b.name) ∧ w'.cell? ⟨wo.heap.size, 1, none⟩ = some (.int .i64 b.valid) ∧ w'.cell? ⟨wo.heap.size, 2, none⟩ = some (.int .i64 b.next) ∧ w'.cell? ⟨wo.heap.size, 3, none⟩ = some (.int .i64 b.mod) ∧ w'.cell? ⟨wo.heap.size, 4, none⟩ = some (.slice am b.mails.length cm) ∧ w'.cell? ⟨wo.heap.size, 5, none⟩ = some (.slice at1 b.tombs.length ct1) ∧ w'.cell? ⟨wo.heap.size, 6, none⟩ = some (.int .i64 b.hor) ∧ w'.cell? ⟨g1, j * 7, none⟩ = some (.string p.name)) (by kernel_rfl) (⟨(uh A).cell 0 rfl, (uh A).cell 1 rfl, (uh V).cell 0 rfl, (uh V).cell 1 rfl, (uh V).cell 2 rfl, (uh V).cell 3 rfl, (uh V).cell 4 rfl, (uh V).cell 5 rfl, (uh V).cell 6 rfl, (br_of (uh S1).row (uh XP)).1⟩) (fun hHeld => ?_)
         replace A := hide ((uh A).drew); replace V := hide ((uh V).drew); replace S1 := hide ((uh S1).drew); replace BB := hide ((uh BB).drew)
         have sz102 : Hid (wir1.heap.size ≤ wir1.drew.heap.size) := Nat.le_refl _
         refine tv 0 24 ?_
         refine wpAnyH_ready (rs := [1]) (by kernel_rfl) (by simp) ?_
         refine AllReadyH.cons rfl (fun K hK => ?_) AllReadyH.nil
         go_simp
         refine (impl_BoxOk_any b _ _ B _ (uh FX) ((uh S1).each _ (uh M1))).mono ?_
         rintro e wirvsf2 ⟨rfl, hb⟩
         rw [hbo]
         replace A := hide ((uh A).ups hb); replace V := hide ((uh V).ups hb); replace S1 := hide ((uh S1).up hb); have sz103 := hide (hb.size); replace BB := hide (below_y (uh BB) hb); clear hb; go_wp2_with fail
         refine hK.out _ _ (⟨(uh A).cell 0 rfl, (uh A).cell 1 rfl, (uh V).cell 0 rfl, (uh V).cell 1 rfl, (uh V).cell 2 rfl, (uh V).cell 3 rfl, (uh V).cell 4 rfl, (uh V).cell 5 rfl, (uh V).cell 6 rfl, (br_of (uh S1).row (uh XP)).1⟩) (fun hHeld2 => ?_)
         clear hK K hHeld; have hHeld := hHeld2; clear hHeld2
         try simp only [Act.put, p1, p2, p3]
         refine tv 2 26 ?_; refine tv 3 27 ?_; refine tv 4 28 ?_; refine tv 5 29 ?_; refine tv 6 30 ?_; refine tv 7 31 ?_; refine tv 8 32 ?_; refine tv 9 33 ?_; refine tv 10 34 ?_; refine tv 11 35 ?_; refine tv 12 36 ?_; refine tv 13 37 ?_; refine tv 14 38 ?_; refine tv 15 39 ?_; refine tv 16 40 ?_; refine tv 17 41 ?_; refine tv 18 42 ?_; refine tv 19 43 ?_; refine tv 20 44 ?_; refine tv 21 45 ?_; refine tv 22 46 ?_; refine tv 23 47 ?_; refine tv 24 48 ?_; refine tv 25 49 ?_
         refine wpAnyH_done (by kernel_rfl) ?_ _
         go_wp2
         go_ret
         exact ⟨by rw [uh HV]; rfl, uh BB⟩
      ·have dv : decide (s.valid ≤ b.valid) = true := decide_eq_true (by omega)
       have HV : Hid (storeOk s = false) := storeOk_no (k := k) (by rw [← uh HN]; exact hlt) (okB_valid (uh XB) hv)
       clear hv; have Ac0_5 := (uh A).cell 0 rfl; have Ac1_5 := (uh A).cell 1 rfl; have Vc0_6 := (uh V).cell 0 rfl; have Vc1_6 := (uh V).cell 1 rfl; have Vc2_6 := (uh V).cell 2 rfl; have Vc3_6 := (uh V).cell 3 rfl; have Vc4_6 := (uh V).cell 4 rfl; have Vc5_6 := (uh V).cell 5 rfl; have Vc6_6 := (uh V).cell 6 rfl
       go_wp2
       clear ec0_4 ec1_4 ec2_4 ec3_4 ec4_4 ec5_4 ec6_4 Ac0_5 Ac1_5 Vc0_6 Vc1_6 Vc2_6 Vc3_6 Vc4_6 Vc5_6 Vc6_6 EV
       refine wp_region_held_drew (S := fun w' => w'.cell? ⟨w.heap.size, 0, none⟩ = some (.slice (some ⟨g1, 0, none⟩) n c1) ∧ w'.cell? ⟨w.heap.size, 1, none⟩ = some (.int .i64 s.valid) ∧ w'.cell? ⟨wo.heap.size, 0, none⟩ = some (.string b.name) ∧ w'.cell? ⟨wo.heap.size, 1, none⟩ = some (.int .i64 b.valid) ∧ w'.cell? ⟨wo.heap.size, 2, none⟩ = some (.int .i64 b.next) ∧ w'.cell? ⟨wo.heap.size, 3, none⟩ = some (.int .i64 b.mod) ∧ w'.cell? ⟨wo.heap.size, 4, none⟩ = some (.slice am b.mails.length cm) ∧ w'.cell? ⟨wo.heap.size, 5, none⟩ = some (.slice at1 b.tombs.length ct1) ∧ w'.cell? ⟨wo.heap.size, 6, none⟩ = some (.int .i64 b.hor)) (by kernel_rfl) (⟨(uh A).cell 0 rfl, (uh A).cell 1 rfl, (uh V).cell 0 rfl, (uh V).cell 1 rfl, (uh V).cell 2 rfl, (uh V).cell 3 rfl, (uh V).cell 4 rfl, (uh V).cell 5 rfl, (uh V).cell 6 rfl⟩) (fun hHeld => ?_)
       replace A := hide ((uh A).drew); replace V := hide ((uh V).drew); replace S1 := hide ((uh S1).drew); replace BB := hide ((uh BB).drew)
       have sz102 : Hid (wir1.heap.size ≤ wir1.drew.heap.size) := Nat.le_refl _
       refine tv 0 24 ?_
       refine wpAnyH_ready (rs := [1]) (by kernel_rfl) (by simp) ?_
       refine AllReadyH.cons rfl (fun K hK => ?_) AllReadyH.nil
       go_simp
       refine (impl_BoxOk_any b _ _ B _ (uh FX) ((uh S1).each _ (uh M1))).mono ?_
       rintro e wiru2 ⟨rfl, hb⟩
       rw [hbo]
       replace A := hide ((uh A).ups hb); replace V := hide ((uh V).ups hb); replace S1 := hide ((uh S1).up hb); have sz103 := hide (hb.size); replace BB := hide (below_y (uh BB) hb); clear hb; go_wp2_with fail
       refine hK.out _ _ (⟨(uh A).cell 0 rfl, (uh A).cell 1 rfl, (uh V).cell 0 rfl, (uh V).cell 1 rfl, (uh V).cell 2 rfl, (uh V).cell 3 rfl, (uh V).cell 4 rfl, (uh V).cell 5 rfl, (uh V).cell 6 rfl⟩) (fun hHeld2 => ?_)
       clear hK K hHeld; have hHeld := hHeld2; clear hHeld2
       try simp only [Act.put, p1, p2, p3]
       refine tv 2 26 ?_; refine tv 3 27 ?_; refine tv 4 28 ?_; refine tv 5 29 ?_; refine tv 6 30 ?_; refine tv 7 31 ?_; refine tv 8 32 ?_; refine tv 9 33 ?_; refine tv 10 34 ?_; refine tk 11 35 ?_; refine tk 12 36 ?_; refine tk 13 37 ?_; refine tk 14 38 ?_; refine tk 15 39 ?_; refine tk 16 40 ?_; refine tk 17 41 ?_; refine tk 18 42 ?_; refine tk 19 43 ?_; refine tk 20 44 ?_; refine tk 21 45 ?_; refine tk 22 46 ?_; refine tk 23 47 ?_; refine tk 24 48 ?_; refine tv 25 49 ?_
       refine wpAnyH_done (by kernel_rfl) ?_ _
       go_wp2
       go_ret
       exact ⟨by rw [uh HV]; rfl, uh BB⟩
    ·obtain rfl : k = n := by omega
     have A := hide oA; have BB := hide hbel; clear oA o1 hbel hlt hk
     have HV : Hid (storeOk s = true) := by show _ = _; unfold storeOk; rw [← uh HN, uh OKK, uh HI1, uh HI2]; rfl
     go_wp2
     go_ret
     exact ⟨by rw [uh HV]; rfl, uh BB⟩
end Go.Proofs.Ytanapiaobpoebaa
