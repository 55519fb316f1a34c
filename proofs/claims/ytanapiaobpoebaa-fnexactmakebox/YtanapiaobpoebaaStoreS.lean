/- The specification's BoxAt and l09Copy. Made by gen_stores.py. -/
import Derived.Test.YtanapiaobpoebaaTv
import Derived.Test.YtanapiaobpoebaaStoreOkS
import Derived.Test.YtanapiaobpoebaaBoxCopyS
import Derived.Test.YtanapiaobpoebaaRegA
namespace Go.Proofs.Ytanapiaobpoebaa
open Go.RowKit
open Plain
set_option linter.unusedVariables false
set_option linter.unusedSimpArgs false

set_option maxHeartbeats 8000000 in
set_option maxRecDepth 100000 in
theorem spec_BoxAt_any (s : Sx) (name : ByteArray) (v : Value) (B : Nat) (w : World) (hf : FitSt s) (h : ReadSt B w v s.boxes) :
  Calls Try.prog 15 #[.agg #[v, .int .i64 s.valid], .string name] w fun e w' => ∃ m t, e = .returned (.tuple #[boxV (atV s name).1 m t, .bool (atV s name).2]) ∧ OwnBx w.heap.size w' m t (atV s name).1 ∧ Below w.heap.size w w' := by
 obtain ⟨L, hL, h⟩ := h
 obtain ⟨a1, c1, rfl⟩ := g_shape h.row
 obtain ⟨n, hn⟩ : ∃ n, n = s.boxes.length := ⟨_, rfl⟩
 have hn1 : L.length = n := by rw [hn, ← hL, List.length_map]
 have hnl := hf.len
 rw [← hn] at hnl
 have S1 := hide h
 rw [hn1] at S1 ⊢
 have FE := hide hf.each; have HL := hide hL; have HN := hide hn; have HN1 := hide hn1; clear h hL hn hn1 hf; have BB := hide (Below.refl w.heap.size w)
 obtain ⟨wa1, hA⟩ : ∃ X, X = w.alloc (.cells ([.slice a1 n c1, .int .i64 s.valid] : List Value).toArray 28) := ⟨_, rfl⟩
 have Ax : HasObj wa1 w.heap.size 28 [.slice a1 n c1, .int .i64 s.valid] := by rw [hA]; exact HasObj.new _ _ _
 have hbn : Below w.heap.size w wa1 := by rw [hA]; exact (Below.refl _ _).alloc (Nat.le_refl _) _
 have loA : w.heap.size ≤ w.heap.size := (uh BB).size
 have EA := hA.symm; clear hA; replace S1 := hide ((uh S1).up hbn); have sz1 := hide (hbn.size); replace BB := hide (below_y (uh BB) hbn); clear hbn; have A := hide Ax; clear Ax
 obtain ⟨wa2, hR⟩ : ∃ X, X = wa1.alloc (.cells ([.string ⟨#[]⟩, .int .i64 0, .int .i64 0, .int .i64 0, .slice none 0 0, .slice none 0 0, .int .i64 0] : List Value).toArray 42) := ⟨_, rfl⟩
 have Rx : HasObj wa2 wa1.heap.size 42 [.string ⟨#[]⟩, .int .i64 0, .int .i64 0, .int .i64 0, .slice none 0 0, .slice none 0 0, .int .i64 0] := by rw [hR]; exact HasObj.new _ _ _
 have hbn : Below wa1.heap.size wa1 wa2 := by rw [hR]; exact (Below.refl _ _).alloc (Nat.le_refl _) _
 have neAR : w.heap.size ≠ wa1.heap.size := Nat.ne_of_lt (uh A).lt
 have loR : w.heap.size ≤ wa1.heap.size := (uh BB).size
 have ER := hR.symm; clear hR; replace A := hide ((uh A).ups hbn); replace S1 := hide ((uh S1).up hbn); have sz2 := hide (hbn.size); replace BB := hide (below_y (uh BB) hbn); clear hbn; have R := hide Rx; clear Rx; have Ac0_1 := (uh A).cell 0 rfl; have Ac1_1 := (uh A).cell 1 rfl
 go_enter Try.func15, Try.ntmps15
 go_wp2
 clear Ac0_1 Ac1_1 EA ER
 go_loopw [6] (fun i wr => ∃ k : Nat, k ≤ n ∧ i = .int .i64 k ∧ (∀ y ∈ s.boxes.take k, sameN name y = false) ∧ HasObj wr (wa1.heap.size) 42 [.string ⟨#[]⟩, .int .i64 0, .int .i64 0, .int .i64 0, .slice none 0 0, .slice none 0 0, .int .i64 0] ∧ HasObj wr (w.heap.size) 28 [.slice a1 n c1, .int .i64 s.valid] ∧ OwnBs B wr (.slice a1 n c1) L ∧ Below w.heap.size w wr) (fun i _ => n - (intOf i).toNat)
 case atStart => exact ⟨0, Nat.zero_le _, rfl, by simp, uh R, uh A, uh S1, uh BB⟩
 clear S1 BB A R
 case round =>
  obtain ⟨k, hk, rfl, hno, oR, oA, o1, hbel⟩ := hrel
  obtain ⟨wo, hwo⟩ : ∃ wo, wo = wr := ⟨_, rfl⟩
  subst hwo
  have HNO := hide hno; clear hno
  by_cases hlt : k < n
  ·have hkl : k < L.length := by rw [uh HN1]; exact hlt
   have hx : L[k]? = some L[k] := List.getElem?_eq_getElem hkl
   have hbx : s.boxes[k]? = some L[k].b := by rw [← uh HL, List.getElem?_map, hx]; rfl
   have hmx := List.getElem_mem hkl; have hfx := uh FE _ (List.mem_of_getElem? hbx)
   obtain ⟨g1, q1, e3, _, _, _⟩ := br_read o1.row hx
   have e5 := (Value.slice.inj e3).1; clear e3
   subst e5
   generalize L[k] = x at *
   obtain ⟨b, m, t⟩ := x
   simp only at hbx hfx
   obtain ⟨am, cm, ee1⟩ := g_shape (o1.each _ hmx).1
   obtain ⟨at1, ct1, ee2⟩ := g_shape (o1.each _ hmx).2
   simp only at ee1 ee2
   subst ee1 ee2
   have A := hide oA; have R := hide oR; clear oA oR; have S1 := hide o1; have BB := hide hbel; have X1 := hide hx; have XB := hide hbx; have M1 := hide hmx; have FX := hide hfx; clear o1 hbel hx hbx hmx hfx
   have i1 : (0 : Int) ≤ (k : Int) := by omega
   have i2 : (k : Int) < (n : Int) := by omega
   have Ac0_2 := (uh A).cell 0 rfl; have Ac1_2 := (uh A).cell 1 rfl; have ec0_3 := (br_of (uh S1).row (uh X1)).1
   simp only at ec0_3
   have ec1_3 := (br_of (uh S1).row (uh X1)).2.1
   simp only at ec1_3
   have ec2_3 := (br_of (uh S1).row (uh X1)).2.2.1
   simp only at ec2_3
   have ec3_3 := (br_of (uh S1).row (uh X1)).2.2.2.1
   simp only at ec3_3
   have ec4_3 := (br_of (uh S1).row (uh X1)).2.2.2.2.1
   simp only at ec4_3
   have ec5_3 := (br_of (uh S1).row (uh X1)).2.2.2.2.2.1
   simp only at ec5_3
   have ec6_3 := (br_of (uh S1).row (uh X1)).2.2.2.2.2.2
   simp only at ec6_3
   cases hd : (b.name.toList == name.toList) with
   | false =>
    have NX := hide (none_more (uh XB) hd (uh HNO))
    go_wp2
    go_roundw
    case rel => exact ⟨k + 1, by omega, by go_num, uh NX, uh R, uh A, uh S1, uh BB⟩
    case measure => simp [intOf]; omega
   | true =>
    have ANS : Hid (atV s name = (b, true)) := atV_some (boxAt_first (uh XB) hd (uh HNO))
    have hbel9 : w.heap.size ≤ wo.heap.size := (uh BB).size
    go_wp2_with fail; clear Ac0_2 Ac1_2 ec0_3 ec1_3 ec2_3 ec3_3 ec4_3 ec5_3 ec6_3
    refine (l08Copy_any b _ _ B _ (Nat.le_trans (uh FX).mails (by decide)) (Nat.le_trans (uh FX).tombs (by decide)) ((uh S1).each _ (uh M1))).mono ?_
    rintro e way1 ⟨mC, tC, rfl, oC, hb⟩
    obtain ⟨amC, cmC, rfl⟩ := g_shape oC.1
    obtain ⟨atC, ctC, rfl⟩ := g_shape oC.2
    have NC := hide (OwnBx.base oC); replace A := hide ((uh A).ups hb); replace R := hide ((uh R).ups hb); replace S1 := hide ((uh S1).up hb); have sz101 := hide (hb.size); replace BB := hide (below_y (uh BB) hb); clear hb; have OC := hide oC; clear oC; clear hd; have Rf0 := (uh R).frozen 0; have Rf1 := (uh R).frozen 1; have Rf2 := (uh R).frozen 2; have Rf3 := (uh R).frozen 3; have Rf4 := (uh R).frozen 4; have Rf5 := (uh R).frozen 5; have Rf6 := (uh R).frozen 6; have Re0 := (uh R).cell 0 rfl; have Re1 := (uh R).cell 1 rfl; have Re2 := (uh R).cell 2 rfl; have Re3 := (uh R).cell 3 rfl; have Re4 := (uh R).cell 4 rfl; have Re5 := (uh R).cell 5 rfl; have Re6 := (uh R).cell 6 rfl; have F := hide (fill7 (uh R) (.string b.name) (.int .i64 b.valid) (.int .i64 b.next) (.int .i64 b.mod) (.slice amC b.mails.length cmC) (.slice atC b.tombs.length ctC) (.int .i64 b.hor))
    obtain ⟨U, hU⟩ : ∃ U, U = (((((((way1.setCell ⟨wa1.heap.size, 0, none⟩ (.string b.name)).setCell ⟨wa1.heap.size, 1, none⟩ (.int .i64 b.valid)).setCell ⟨wa1.heap.size, 2, none⟩ (.int .i64 b.next)).setCell ⟨wa1.heap.size, 3, none⟩ (.int .i64 b.mod)).setCell ⟨wa1.heap.size, 4, none⟩ (.slice amC b.mails.length cmC)).setCell ⟨wa1.heap.size, 5, none⟩ (.slice atC b.tombs.length ctC)).setCell ⟨wa1.heap.size, 6, none⟩ (.int .i64 b.hor)) := ⟨_, rfl⟩
    have F9 := uh F
    rw [← hU] at F9
    have EU := hU.symm; clear F hU; have v0 := F9.obj.cell 0 rfl; have v1 := F9.obj.cell 1 rfl; have v2 := F9.obj.cell 2 rfl; have v3 := F9.obj.cell 3 rfl; have v4 := F9.obj.cell 4 rfl; have v5 := F9.obj.cell 5 rfl; have v6 := F9.obj.cell 6 rfl; have F := hide F9; clear F9
    go_wp2_with (refine bodyPost_ret (by simp [results, Try.results15, go_sem, v0, v1, v2, v3, v4, v5, v6]; try rfl) rfl ?_)
    clear EU; have F := uh F
    rw [uh ANS]
    have OC9 := uh OC
    exact ⟨_, _, rfl, OwnBx.based ⟨F.row (by decide) OC9.1, F.row (by decide) OC9.2⟩ hbel9, F.below loR (uh BB)⟩
  ·obtain rfl : k = n := by omega
   have A := hide oA; have R := hide oR; have BB := hide hbel; clear oA oR o1 hbel hlt hk
   have ANS : Hid (atV s name = (bx0, false)) := atV_none (boxAt_none (by have h9 := uh HNO; rw [List.take_of_length_le (by have := uh HN; omega)] at h9; exact h9))
   have Ac0_2 := (uh A).cell 0 rfl; have Ac1_2 := (uh A).cell 1 rfl; have Rf0 := (uh R).frozen 0; have Rf1 := (uh R).frozen 1; have Rf2 := (uh R).frozen 2; have Rf3 := (uh R).frozen 3; have Rf4 := (uh R).frozen 4; have Rf5 := (uh R).frozen 5; have Rf6 := (uh R).frozen 6; have Re0 := (uh R).cell 0 rfl; have Re1 := (uh R).cell 1 rfl; have Re2 := (uh R).cell 2 rfl; have Re3 := (uh R).cell 3 rfl; have Re4 := (uh R).cell 4 rfl; have Re5 := (uh R).cell 5 rfl; have Re6 := (uh R).cell 6 rfl
   have F := hide (fill7 (uh R) (.string ⟨#[]⟩) (.int .i64 0) (.int .i64 0) (.int .i64 0) (.slice none 0 0) (.slice none 0 0) (.int .i64 0))
   obtain ⟨U, hU⟩ : ∃ U, U = (((((((wo.setCell ⟨wa1.heap.size, 0, none⟩ (.string ⟨#[]⟩)).setCell ⟨wa1.heap.size, 1, none⟩ (.int .i64 0)).setCell ⟨wa1.heap.size, 2, none⟩ (.int .i64 0)).setCell ⟨wa1.heap.size, 3, none⟩ (.int .i64 0)).setCell ⟨wa1.heap.size, 4, none⟩ (.slice none 0 0)).setCell ⟨wa1.heap.size, 5, none⟩ (.slice none 0 0)).setCell ⟨wa1.heap.size, 6, none⟩ (.int .i64 0)) := ⟨_, rfl⟩
   have F9 := uh F
   rw [← hU] at F9
   have EU := hU.symm; clear F hU; have v0 := F9.obj.cell 0 rfl; have v1 := F9.obj.cell 1 rfl; have v2 := F9.obj.cell 2 rfl; have v3 := F9.obj.cell 3 rfl; have v4 := F9.obj.cell 4 rfl; have v5 := F9.obj.cell 5 rfl; have v6 := F9.obj.cell 6 rfl; have F := hide F9; clear F9
   go_wp2_with (refine bodyPost_ret (by simp [results, Try.results15, go_sem, v0, v1, v2, v3, v4, v5, v6]; try rfl) rfl ?_)
   clear EU; have F := uh F
   rw [uh ANS]
   exact ⟨.slice none 0 0, .slice none 0 0, rfl, ⟨World.ownsRow_nil _ _ _ _, World.ownsRow_nil _ _ _ _⟩, F.below loR (uh BB)⟩
set_option maxHeartbeats 8000000 in
set_option maxRecDepth 100000 in
theorem l09Copy_any (s : Sx) (v : Value) (B : Nat) (w : World) (hf : FitSt s) (h : ReadSt B w v s.boxes) :
  Calls Try.prog 12 #[.agg #[v, .int .i64 s.valid]] w fun e w' => ∃ v', e = .returned (.agg #[v', .int .i64 s.valid]) ∧ ReadSt w.heap.size w' v' s.boxes ∧ Below w.heap.size w w' := by
 obtain ⟨iX, hX, hX0, hX1, hX2⟩ := info_parts Try.infoBox
 obtain ⟨L, hL, h⟩ := h
 obtain ⟨a1, c1, rfl⟩ := g_shape h.row
 obtain ⟨n, hn⟩ : ∃ n, n = s.boxes.length := ⟨_, rfl⟩
 have hn1 : L.length = n := by rw [hn, ← hL, List.length_map]
 have hnl := hf.len
 rw [← hn] at hnl
 have S1 := hide h
 rw [hn1] at S1 ⊢
 have FE := hide hf.each; have HL := hide hL; have HN := hide hn; have HN1 := hide hn1; clear h hL hn hn1 hf
 have LTS : Hid (∀ g, Value.ownBlock (.slice a1 n c1) = some g → g < w.heap.size) := fun g hg => (World.ownsRow.lt (uh S1).row g hg).2
 have OR1 : Hid (OwnBr B w (.slice a1 n c1) L) := (uh S1).row
 have EB1 : Hid (EachB B w L) := (uh S1).each
 clear S1; have BB := hide (Below.refl w.heap.size w)
 obtain ⟨wc1, hA⟩ : ∃ X, X = w.alloc (.cells ([.slice a1 n c1, .int .i64 s.valid] : List Value).toArray 28) := ⟨_, rfl⟩
 have Ax : HasObj wc1 w.heap.size 28 [.slice a1 n c1, .int .i64 s.valid] := by rw [hA]; exact HasObj.new _ _ _
 have hbn : Below w.heap.size w wc1 := by rw [hA]; exact (Below.refl _ _).alloc (Nat.le_refl _) _
 have loA : w.heap.size ≤ w.heap.size := (uh BB).size
 have EA := hA.symm; clear hA; replace OR1 := hide ((uh OR1).up hbn); replace EB1 := hide ((uh EB1).up hbn); have sz1 := hide (hbn.size); replace BB := hide (below_y (uh BB) hbn); clear hbn; have A := hide Ax; clear Ax
 obtain ⟨wc2, hR⟩ : ∃ X, X = wc1.alloc (.cells ([.slice none 0 0, .int .i64 0] : List Value).toArray 28) := ⟨_, rfl⟩
 have Rx : HasObj wc2 wc1.heap.size 28 [.slice none 0 0, .int .i64 0] := by rw [hR]; exact HasObj.new _ _ _
 have hbn : Below wc1.heap.size wc1 wc2 := by rw [hR]; exact (Below.refl _ _).alloc (Nat.le_refl _) _
 have neAR : w.heap.size ≠ wc1.heap.size := Nat.ne_of_lt (uh A).lt
 have loR : w.heap.size ≤ wc1.heap.size := (uh BB).size
 have ER := hR.symm; clear hR; replace A := hide ((uh A).ups hbn); replace OR1 := hide ((uh OR1).up hbn); replace EB1 := hide ((uh EB1).up hbn); have sz2 := hide (hbn.size); replace BB := hide (below_y (uh BB) hbn); clear hbn; have R := hide Rx; clear Rx; have Ac0_1 := (uh A).cell 0 rfl; have Ac1_1 := (uh A).cell 1 rfl
 obtain ⟨wc3, hO⟩ : ∃ X, X = wc2.alloc (.cells ([.slice none 0 0, .int .i64 s.valid] : List Value).toArray 28) := ⟨_, rfl⟩
 have Ox : HasObj wc3 wc2.heap.size 28 [.slice none 0 0, .int .i64 s.valid] := by rw [hO]; exact HasObj.new _ _ _
 have hbn : Below wc2.heap.size wc2 wc3 := by rw [hO]; exact (Below.refl _ _).alloc (Nat.le_refl _) _
 have neAO : w.heap.size ≠ wc2.heap.size := Nat.ne_of_lt (uh A).lt
 have neRO : wc1.heap.size ≠ wc2.heap.size := Nat.ne_of_lt (uh R).lt
 have loO : w.heap.size ≤ wc2.heap.size := (uh BB).size
 have EO := hO.symm; clear hO; replace A := hide ((uh A).ups hbn); replace R := hide ((uh R).ups hbn); replace OR1 := hide ((uh OR1).up hbn); replace EB1 := hide ((uh EB1).up hbn); have sz3 := hide (hbn.size); replace BB := hide (below_y (uh BB) hbn); clear hbn; have O := hide Ox; clear Ox
 go_enter Try.func12, Try.ntmps12
 go_wp2
 clear Ac0_1 Ac1_1 EA ER EO
 go_loopw [4] (fun i wr => ∃ (k : Nat) (L2 : List Lb) (a2 : Option Addr) (c2 : Nat), k ≤ n ∧ i = .int .i64 k ∧ L2.map (·.b) = s.boxes.take k ∧ HasObj wr (w.heap.size) 28 [.slice a1 n c1, .int .i64 s.valid] ∧ HasObj wr (wc1.heap.size) 28 [.slice none 0 0, .int .i64 0] ∧ HasObj wr (wc2.heap.size) 28 [.slice a2 L2.length c2, .int .i64 s.valid] ∧ OwnBr B wr (.slice a1 n c1) L ∧ EachB B wr L ∧ OwnBr w.heap.size wr (.slice a2 L2.length c2) L2 ∧ EachB w.heap.size wr L2 ∧ Below w.heap.size w wr) (fun i _ => n - (intOf i).toNat)
 case atStart => exact ⟨0, [], none, 0, Nat.zero_le _, rfl, by simp, uh A, uh R, uh O, uh OR1, uh EB1, World.ownsRow_nil _ _ _ _, EachB.nil _ _, uh BB⟩
 clear OR1 EB1 BB A R O
 case round =>
  obtain ⟨k, L2, a2, c2, hk, rfl, hL2, oA, oR, oO, o1, oe, o2, oe2, hbel⟩ := hrel
  obtain ⟨wo, hwo⟩ : ∃ wo, wo = wr := ⟨_, rfl⟩
  subst hwo
  have HL2 := hide hL2; clear hL2
  by_cases hlt : k < n
  ·have hkl : k < L.length := by rw [uh HN1]; exact hlt
   have hx : L[k]? = some L[k] := List.getElem?_eq_getElem hkl
   have hbx : s.boxes[k]? = some L[k].b := by rw [← uh HL, List.getElem?_map, hx]; rfl
   have hmx := List.getElem_mem hkl; have hfx := uh FE _ (List.mem_of_getElem? hbx)
   obtain ⟨g1, q1, e3, _, _, _⟩ := br_read o1 hx
   have e5 := (Value.slice.inj e3).1; clear e3
   subst e5
   generalize L[k] = x at *
   obtain ⟨b, m, t⟩ := x
   simp only at hbx hfx
   obtain ⟨am, cm, ee1⟩ := g_shape (oe _ hmx).1
   obtain ⟨at1, ct1, ee2⟩ := g_shape (oe _ hmx).2
   simp only at ee1 ee2
   subst ee1 ee2
   have A := hide oA; have R := hide oR; have O := hide oO; have OR1 := hide o1; have EB1 := hide oe; have OR2 := hide o2; have EB2 := hide oe2; have BB := hide hbel; have X1 := hide hx; have XB := hide hbx; have M1 := hide hmx; have FX := hide hfx
   have hlo9 : w.heap.size ≤ wo.heap.size := hbel.size
   clear oA oR oO o1 oe o2 oe2 hbel hx hbx hmx hfx
   have i1 : (0 : Int) ≤ (k : Int) := by omega
   have i2 : (k : Int) < (n : Int) := by omega
   have LK : L2.length = k := by have h9 := congrArg List.length (uh HL2); rw [List.length_map, List.length_take, ← uh HN] at h9; omega
   have HLK := hide LK; clear LK; have Ac0_2 := (uh A).cell 0 rfl; have Ac1_2 := (uh A).cell 1 rfl; have Oc0_3 := (uh O).cell 0 rfl; have Oc1_3 := (uh O).cell 1 rfl
   go_wp2
   clear Ac0_2 Ac1_2 Oc0_3 Oc1_3
   refine lateBegin (S := fun w' => w'.cell? ⟨w.heap.size, 0, none⟩ = some (.slice (some ⟨g1, 0, none⟩) n c1) ∧ w'.cell? ⟨wc2.heap.size, 0, none⟩ = some (.slice a2 L2.length c2) ∧ w'.cell? ⟨g1, k * 7, none⟩ = some (.string b.name) ∧ w'.cell? ⟨g1, k * 7 + 1, none⟩ = some (.int .i64 b.valid) ∧ w'.cell? ⟨g1, k * 7 + 2, none⟩ = some (.int .i64 b.next) ∧ w'.cell? ⟨g1, k * 7 + 3, none⟩ = some (.int .i64 b.mod) ∧ w'.cell? ⟨g1, k * 7 + 4, none⟩ = some (.slice am b.mails.length cm) ∧ w'.cell? ⟨g1, k * 7 + 5, none⟩ = some (.slice at1 b.tombs.length ct1) ∧ w'.cell? ⟨g1, k * 7 + 6, none⟩ = some (.int .i64 b.hor)) 11 (by kernel_rfl) (⟨(uh A).cell 0 rfl, (uh O).cell 0 rfl, (br_of (uh OR1) (uh X1)).1, (br_of (uh OR1) (uh X1)).2.1, (br_of (uh OR1) (uh X1)).2.2.1, (br_of (uh OR1) (uh X1)).2.2.2.1, (br_of (uh OR1) (uh X1)).2.2.2.2.1, (br_of (uh OR1) (uh X1)).2.2.2.2.2.1, (br_of (uh OR1) (uh X1)).2.2.2.2.2.2⟩) (fun hHeld => ?_)
   replace A := hide ((uh A).drew); replace R := hide ((uh R).drew); replace O := hide ((uh O).drew); replace OR1 := hide ((uh OR1).drew); replace EB1 := hide ((uh EB1).drew); replace OR2 := hide ((uh OR2).drew); replace EB2 := hide ((uh EB2).drew); replace BB := hide ((uh BB).drew)
   have sz101 : Hid (wo.heap.size ≤ wo.drew.heap.size) := Nat.le_refl _
   refine lt 0 15 ?_; refine lt 1 16 ?_; refine lt 2 17 ?_; refine lt 3 18 ?_; refine lt 4 19 ?_; refine lt 5 20 ?_; refine lt 6 21 ?_
   refine lateStep 7 (by kernel_rfl) rfl (by rfl) (fun K hK => ?_)
   go_simp
   refine (l08Copy_any b _ _ B _ (Nat.le_trans (uh FX).mails (by decide)) (Nat.le_trans (uh FX).tombs (by decide)) ((uh EB1) _ (uh M1))).mono ?_
   rintro e wcr1 ⟨mC, tC, rfl, oC, hb⟩
   obtain ⟨amC, cmC, rfl⟩ := g_shape oC.1
   obtain ⟨atC, ctC, rfl⟩ := g_shape oC.2
   have OC_ := hide (oC.based hlo9); clear oC; replace A := hide ((uh A).ups hb); replace R := hide ((uh R).ups hb); replace O := hide ((uh O).ups hb); replace OR1 := hide ((uh OR1).up hb); replace EB1 := hide ((uh EB1).up hb); replace OR2 := hide ((uh OR2).up hb); replace EB2 := hide ((uh EB2).up hb); have sz102 := hide (hb.size); replace BB := hide (below_y (uh BB) hb); clear hb; have OC := OC_; clear OC_; go_wp2_with fail
   refine hK.out _ _ (⟨(uh A).cell 0 rfl, (uh O).cell 0 rfl, (br_of (uh OR1) (uh X1)).1, (br_of (uh OR1) (uh X1)).2.1, (br_of (uh OR1) (uh X1)).2.2.1, (br_of (uh OR1) (uh X1)).2.2.2.1, (br_of (uh OR1) (uh X1)).2.2.2.2.1, (br_of (uh OR1) (uh X1)).2.2.2.2.2.1, (br_of (uh OR1) (uh X1)).2.2.2.2.2.2⟩) (fun hHeld2 => ?_)
   clear hK K hHeld; have hHeld := hHeld2; clear hHeld2
   try simp only [Act.put, p1, p2, p3]
   refine lateStep 8 (by kernel_rfl) rfl (by rfl) (fun K hK => ?_)
   go_simp
   have hA : Below wcr1.heap.size wcr1 (wcr1.alloc (.cells ((lbC (⟨b, .slice amC b.mails.length cmC, .slice atC b.tombs.length ctC⟩ : Lb)) : List Value).toArray 42)) := (Below.refl _ _).alloc (Nat.le_refl _) _
   replace A := hide ((uh A).ups hA); replace R := hide ((uh R).ups hA); replace O := hide ((uh O).ups hA); replace OR1 := hide ((uh OR1).up hA); replace EB1 := hide ((uh EB1).up hA); replace OR2 := hide ((uh OR2).up hA); replace EB2 := hide ((uh EB2).up hA); replace OC := hide ((uh OC).up hA); have sz103 := hide (hA.size); replace BB := hide (below_y (uh BB) hA); clear hA
   refine hK.out _ _ (⟨(uh A).cell 0 rfl, (uh O).cell 0 rfl, (br_of (uh OR1) (uh X1)).1, (br_of (uh OR1) (uh X1)).2.1, (br_of (uh OR1) (uh X1)).2.2.1, (br_of (uh OR1) (uh X1)).2.2.2.1, (br_of (uh OR1) (uh X1)).2.2.2.2.1, (br_of (uh OR1) (uh X1)).2.2.2.2.2.1, (br_of (uh OR1) (uh X1)).2.2.2.2.2.2⟩) (fun hHeld2 => ?_)
   clear hK K hHeld; have hHeld := hHeld2; clear hHeld2
   try simp only [Act.put, p1, p2, p3]
   have oa := uh OR2; have ldl := (uh BB).size
   refine lateStep 9 (by kernel_rfl) rfl (by rfl) (fun K hK => ?_)
   refine wp_append_lies _ (.tmp 16) (.tmp 23) 26 rfl (w.heap.size) 42 iX _ 7 96 Try.underlying26 hX hX0 hX1 hX2 rfl (by decide) (.slice a2 L2.length c2) _ _ rfl oa ⟨wcr1.heap.size, 0, none⟩ 1 1 (lbC (⟨b, .slice amC b.mails.length cmC, .slice atC b.tombs.length ctC⟩ : Lb)) rfl rfl (newsC _ _) ?c2 (by decide) ?c3 ?c4 ?c5 (wcr1.heap.size + 1) (by simp) ?_
   case c2 => intro u hu; simp [lbC] at hu; rcases hu with rfl | rfl | rfl | rfl | rfl | rfl | rfl <;> rfl
   case c3 => unfold maxLen; have := uh HLK; omega
   case c4 => have := uh HLK; omega
   case c5 => have q1_ := (uh BB).size; have sz101_ := uh sz101; have sz102_ := uh sz102; have sz103_ := uh sz103; (try simp at q1_); (try simp); omega
   intro gcr2 capcr2 wcr2 hown hgr hat hlt_
   have A_ := hide ((uh A).kept hgr (fun e => (uh A).not_row (by decide) oa e.symm))
   have R_ := hide ((uh R).kept hgr (fun e => (uh R).not_row (by decide) oa e.symm))
   have O_ := hide ((uh O).kept hgr (fun e => (uh O).not_row (by decide) oa e.symm))
   have OR1_ : Hid (OwnBr B wcr2 (.slice (some ⟨g1, 0, none⟩) n c1) (L)) := g_aside (uh OR1) hgr (fun x hx hx2 => by have q1_ := uh LTS x hx2; have q2_ := (World.ownsRow.lt oa x hx).1; omega)
   have EB1_ : Hid (EachB B wcr2 (L)) := (uh EB1).aside oa hgr (by decide) (by decide)
   have EB2_ : Hid (EachB w.heap.size wcr2 (L2)) := (uh EB2).aside oa hgr (by decide) (by decide)
   have OC_ : Hid (OwnBx w.heap.size wcr2 (.slice amC b.mails.length cmC) (.slice atC b.tombs.length ctC) b) := ⟨g_aside (uh OC).1 hgr (fun x hx => rows_apart oa (uh OC).1 (by decide) x hx), g_aside (uh OC).2 hgr (fun x hx => rows_apart oa (uh OC).2 (by decide) x hx)⟩
   have OR2_ : Hid (OwnBr (w.heap.size) wcr2 (.slice (some ⟨gcr2, 0, none⟩) (L2.length + 1) capcr2) (L2 ++ [(⟨b, .slice amC b.mails.length cmC, .slice atC b.tombs.length ctC⟩ : Lb)])) := by exact OwnBr.snoc hown
   have BB_ : Hid (Below w.heap.size w wcr2) := (uh BB).grown hgr (uh BB).size (fun b hb => by have q2_ := (World.ownsRow.lt oa b hb).1; have sz101_ := uh sz101; have sz102_ := uh sz102; have sz103_ := uh sz103; omega)
   have sz104 : Hid ((wcr1.alloc (.cells ((lbC (⟨b, .slice amC b.mails.length cmC, .slice atC b.tombs.length ctC⟩ : Lb)) : List Value).toArray 42)).heap.size ≤ wcr2.heap.size) := hgr.size
   replace A := A_; clear A_; replace R := R_; clear R_; replace O := O_; clear O_; replace OR1 := OR1_; clear OR1_; replace EB1 := EB1_; clear EB1_; replace OR2 := OR2_; clear OR2_; replace EB2 := EB2_; clear EB2_; replace OC := OC_; clear OC_; replace BB := BB_; clear BB_; clear hown hgr hat hlt_ oa ldl
   refine hK.out _ _ (⟨(uh A).cell 0 rfl, (uh O).cell 0 rfl, (br_of (uh OR1) (uh X1)).1, (br_of (uh OR1) (uh X1)).2.1, (br_of (uh OR1) (uh X1)).2.2.1, (br_of (uh OR1) (uh X1)).2.2.2.1, (br_of (uh OR1) (uh X1)).2.2.2.2.1, (br_of (uh OR1) (uh X1)).2.2.2.2.2.1, (br_of (uh OR1) (uh X1)).2.2.2.2.2.2⟩) (fun hHeld2 => ?_)
   clear hK K hHeld; have hHeld := hHeld2; clear hHeld2
   try simp only [Act.put, p1, p2, p3]
   refine lateStep 10 (by kernel_rfl) rfl (by rfl) (fun K hK => ?_)
   go_simp
   refine hK.out _ _ (⟨(uh A).cell 0 rfl, (uh O).cell 0 rfl, (br_of (uh OR1) (uh X1)).1, (br_of (uh OR1) (uh X1)).2.1, (br_of (uh OR1) (uh X1)).2.2.1, (br_of (uh OR1) (uh X1)).2.2.2.1, (br_of (uh OR1) (uh X1)).2.2.2.2.1, (br_of (uh OR1) (uh X1)).2.2.2.2.2.1, (br_of (uh OR1) (uh X1)).2.2.2.2.2.2⟩) (fun hHeld2 => ?_)
   clear hK K hHeld; have hHeld := hHeld2; clear hHeld2
   try simp only [Act.put, p1, p2, p3]
   have Ofz0_4 := (uh O).frozen 0; have Ocz0_4 := (uh O).cell 0 rfl
   obtain ⟨wcr3, hst⟩ : ∃ X, X = wcr2.setCell ⟨wc2.heap.size, 0, none⟩ (.slice (some ⟨gcr2, 0, none⟩) (L2.length + 1) capcr2) := ⟨_, rfl⟩
   have OR1_ : Hid (OwnBr B wcr3 (.slice (some ⟨g1, 0, none⟩) n c1) (L)) := by show OwnBr _ _ _ _; rw [hst]; exact (uh O).row (j := 0) (by decide) (uh OR1) _
   have EB1_ : Hid (EachB B wcr3 (L)) := by show EachB _ _ _; rw [hst]; exact (uh EB1).set (j := 0) (uh O) (by decide) (by decide) _
   have OR2_ : Hid (OwnBr w.heap.size wcr3 (.slice (some ⟨gcr2, 0, none⟩) (L2.length + 1) capcr2) (L2 ++ [(⟨b, .slice amC b.mails.length cmC, .slice atC b.tombs.length ctC⟩ : Lb)])) := by show OwnBr _ _ _ _; rw [hst]; exact (uh O).row (j := 0) (by decide) (uh OR2) _
   have EB2_ : Hid (EachB w.heap.size wcr3 (L2)) := by show EachB _ _ _; rw [hst]; exact (uh EB2).set (j := 0) (uh O) (by decide) (by decide) _
   have OC_ : Hid (OwnBx w.heap.size wcr3 (.slice amC b.mails.length cmC) (.slice atC b.tombs.length ctC) b) := by show OwnBx _ _ _ _ _; rw [hst]; exact ⟨(uh O).row (j := 0) (by decide) (uh OC).1 _, (uh O).row (j := 0) (by decide) (uh OC).2 _⟩
   have A_ := hide ((uh A).other (j := 0) neAO (.slice (some ⟨gcr2, 0, none⟩) (L2.length + 1) capcr2))
   rw [← hst] at A_
   have R_ := hide ((uh R).other (j := 0) neRO (.slice (some ⟨gcr2, 0, none⟩) (L2.length + 1) capcr2))
   rw [← hst] at R_
   have O_ := hide ((uh O).set 0 (.slice (some ⟨gcr2, 0, none⟩) (L2.length + 1) capcr2))
   rw [← hst] at O_
   have BB_ := hide ((uh BB).setCell (p := ⟨wc2.heap.size, 0, none⟩) (show w.heap.size ≤ wc2.heap.size from loO) (.slice (some ⟨gcr2, 0, none⟩) (L2.length + 1) capcr2))
   rw [← hst] at BB_
   have sz105 : Hid (wcr2.heap.size ≤ wcr3.heap.size) := by show _ ≤ _; rw [hst]; simp
   replace OR1 := OR1_; clear OR1_; replace EB1 := EB1_; clear EB1_; replace OR2 := OR2_; clear OR2_; replace EB2 := EB2_; clear EB2_; replace OC := OC_; clear OC_; replace A := A_; clear A_; replace R := R_; clear R_; replace O := O_; clear O_; replace BB := BB_; clear BB_; have Est105 := hst.symm; clear hst
   refine lateLast 11 (by decide) (by kernel_rfl) rfl (by rfl) (fun K hK => ?_)
   go_simp
   refine hK.out _ _ ?_
   clear hK K hHeld
   try simp only [Act.put, p1, p2, p3]
   try rw [Est105]
   clear Ofz0_4 Ocz0_4 Est105
   refine lateDone (by kernel_rfl) ?_ _
   have e9 : L2.length + 1 = (L2 ++ [(⟨b, .slice amC b.mails.length cmC, .slice atC b.tombs.length ctC⟩ : Lb)]).length := by simp
   rw [e9] at O OR2
   clear e9
   have EB9 := hide (EachB.snoc (x := (⟨b, .slice amC b.mails.length cmC, .slice atC b.tombs.length ctC⟩ : Lb)) (uh EB2) (uh OC))
   have NX : Hid ((L2 ++ [(⟨b, .slice amC b.mails.length cmC, .slice atC b.tombs.length ctC⟩ : Lb)]).map (·.b) = s.boxes.take (k + 1)) := by show _ = _; rw [List.map_append, uh HL2, take_snoc (uh XB)]; rfl
   go_wp2
   go_roundw
   case rel => exact ⟨k + 1, _, _, _, by omega, by go_num, uh NX, uh A, uh R, uh O, uh OR1, uh EB1, uh OR2, uh EB9, uh BB⟩
   case measure => simp [intOf]; omega
  ·obtain rfl : k = n := by omega
   have A := hide oA; have R := hide oR; have O := hide oO; have OR2 := hide o2; have EB2 := hide oe2; have BB := hide hbel; clear oA oR oO o1 oe o2 oe2 hbel hlt hk; have Ac0_2 := (uh A).cell 0 rfl; have Ac1_2 := (uh A).cell 1 rfl; have Oc0_3 := (uh O).cell 0 rfl; have Oc1_3 := (uh O).cell 1 rfl; have Rf0 := (uh R).frozen 0; have Rf1 := (uh R).frozen 1; have Re0 := (uh R).cell 0 rfl; have Re1 := (uh R).cell 1 rfl; have F := hide (fill2 (uh R) (.slice a2 L2.length c2) (.int .i64 s.valid))
   obtain ⟨U, hU⟩ : ∃ U, U = ((wo.setCell ⟨wc1.heap.size, 0, none⟩ (.slice a2 L2.length c2)).setCell ⟨wc1.heap.size, 1, none⟩ (.int .i64 s.valid)) := ⟨_, rfl⟩
   have F9 := uh F
   rw [← hU] at F9
   have EU := hU.symm; clear F hU; have v0 := F9.obj.cell 0 rfl; have v1 := F9.obj.cell 1 rfl; have F := hide F9; clear F9
   go_wp2_with (refine bodyPost_ret (by simp [results, Try.results12, go_sem, v0, v1]; try rfl) rfl ?_)
   clear EU; have F := uh F
   refine ⟨_, rfl, ⟨L2, ?_, ⟨F.row (by decide) (uh OR2), fun x hx => ⟨F.row (by decide) ((uh EB2) x hx).1, F.row (by decide) ((uh EB2) x hx).2⟩⟩⟩, F.below loR (uh BB)⟩
   rw [uh HL2, List.take_of_length_le (by have := uh HN; omega)]
end Go.Proofs.Ytanapiaobpoebaa
