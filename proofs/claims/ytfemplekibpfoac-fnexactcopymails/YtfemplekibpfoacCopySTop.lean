/- Several texts in one. -/
import Derived.Test.YtfemplekibpfoacStoreOkS
import Derived.Test.YtfemplekibpfoacBoxCopyS
import Derived.Test.YtfemplekibpfoacRegA
import Derived.Test.YtfemplekibpfoacCopyPlain
import Derived.Test.YtfemplekibpfoacFlagRows
import Derived.Test.YtfemplekibpfoacSetA
import Derived.Deep.CutRange
/- The specification's BoxAt and l09Copy. Made by gen_stores.py. -/
namespace Go.Proofs.Ytfemplekibpfoac
open Go.RowKit
open Plain
set_option linter.unusedVariables false
set_option linter.unusedSimpArgs false

set_option maxHeartbeats 8000000 in
set_option maxRecDepth 100000 in
theorem spec_BoxAt_any (s : Sx) (name : ByteArray) (v : Value) (B : Nat) (w : World) (hf : FitSt s) (h : ReadSt B w v s.boxes) :
    Calls Try.prog 54 #[.agg #[v, .int .i64 s.valid], .string name] w fun e w' => ∃ m t, e = .returned (.tuple #[boxV (atV s name).1 m t, .bool (atV s name).2]) ∧ OwnBx w.heap.size w' m t (atV s name).1 ∧ Below w.heap.size w w' := by
  obtain ⟨L, hL, h⟩ := h
  obtain ⟨a1, c1, rfl⟩ := g_shape h.row
  obtain ⟨n, hn⟩ : ∃ n, n = s.boxes.length := ⟨_, rfl⟩
  have hn1 : L.length = n := by rw [hn, ← hL, List.length_map]
  have hnl := hf.len
  rw [← hn] at hnl
  have S1 := hide h
  rw [hn1] at S1 ⊢
  have FE := hide hf.each; have HL := hide hL; have HN := hide hn; have HN1 := hide hn1; clear h hL hn hn1 hf; have BB := hide (Below.refl w.heap.size w)
  obtain ⟨wa1, hA⟩ : ∃ X, X = w.alloc (.cells ([.slice a1 n c1, .int .i64 s.valid] : List Value).toArray 33) := ⟨_, rfl⟩
  have Ax : HasObj wa1 w.heap.size 33 [.slice a1 n c1, .int .i64 s.valid] := by rw [hA]; exact HasObj.new _ _ _
  have hbn : Below w.heap.size w wa1 := by rw [hA]; exact (Below.refl _ _).alloc (Nat.le_refl _) _
  have loA : w.heap.size ≤ w.heap.size := (unhide BB).size
  have EA := hA.symm; clear hA; replace S1 := hide ((unhide S1).up hbn); have sz1 := hide (hbn.size); replace BB := hide (below_y (unhide BB) hbn); clear hbn; have A := hide Ax; clear Ax
  obtain ⟨wa2, hR⟩ : ∃ X, X = wa1.alloc (.cells ([.string ⟨#[]⟩, .int .i64 0, .int .i64 0, .int .i64 0, .slice none 0 0, .slice none 0 0, .int .i64 0] : List Value).toArray 39) := ⟨_, rfl⟩
  have Rx : HasObj wa2 wa1.heap.size 39 [.string ⟨#[]⟩, .int .i64 0, .int .i64 0, .int .i64 0, .slice none 0 0, .slice none 0 0, .int .i64 0] := by rw [hR]; exact HasObj.new _ _ _
  have hbn : Below wa1.heap.size wa1 wa2 := by rw [hR]; exact (Below.refl _ _).alloc (Nat.le_refl _) _
  have neAR : w.heap.size ≠ wa1.heap.size := Nat.ne_of_lt (unhide A).lt
  have loR : w.heap.size ≤ wa1.heap.size := (unhide BB).size
  have ER := hR.symm; clear hR; replace A := hide ((unhide A).ups hbn); replace S1 := hide ((unhide S1).up hbn); have sz2 := hide (hbn.size); replace BB := hide (below_y (unhide BB) hbn); clear hbn; have R := hide Rx; clear Rx; have Ac0_1 := (unhide A).cell 0 rfl; have Ac1_1 := (unhide A).cell 1 rfl
  go_enter Try.func54, Try.ntmps54
  go_wp2
  clear Ac0_1 Ac1_1 EA ER
  go_loopw [6] (fun i wr => ∃ k : Nat, k ≤ n ∧ i = .int .i64 k ∧ (∀ y ∈ s.boxes.take k, sameN name y = false) ∧ HasObj wr (wa1.heap.size) 39 [.string ⟨#[]⟩, .int .i64 0, .int .i64 0, .int .i64 0, .slice none 0 0, .slice none 0 0, .int .i64 0] ∧ HasObj wr (w.heap.size) 33 [.slice a1 n c1, .int .i64 s.valid] ∧ OwnBs B wr (.slice a1 n c1) L ∧ Below w.heap.size w wr) (fun i _ => n - (intOf i).toNat)
  case atStart => exact ⟨0, Nat.zero_le _, rfl, by simp, unhide R, unhide A, unhide S1, unhide BB⟩
  clear S1 BB A R
  case round =>
    obtain ⟨k, hk, rfl, hno, oR, oA, o1, hbel⟩ := hrel
    obtain ⟨wo, hwo⟩ : ∃ wo, wo = wr := ⟨_, rfl⟩
    subst hwo
    have HNO := hide hno; clear hno
    by_cases hlt : k < n
    · have hkl : k < L.length := by rw [unhide HN1]; exact hlt
      have hx : L[k]? = some L[k] := List.getElem?_eq_getElem hkl
      have hbx : s.boxes[k]? = some L[k].b := by rw [← unhide HL, List.getElem?_map, hx]; rfl
      have hmx := List.getElem_mem hkl; have hfx := unhide FE _ (List.mem_of_getElem? hbx)
      obtain ⟨g1, q1, e3, _, _, _⟩ := br_read o1.row hx
      have e5 := (Value.slice.inj e3).1; clear e3
      subst e5
      generalize L[k] = x at *
      obtain ⟨b, m, t⟩ := x
      simp only at hbx hfx
      obtain ⟨am, cm, ee1⟩ := g_shape (o1.each _ hmx).1
      obtain ⟨at1, ct1, ee2⟩ := g_shape (o1.each _ hmx).2
      simp only at ee1 ee2
      subst ee1 ee2
      have A := hide oA; have R := hide oR; clear oA oR; have S1 := hide o1; have BB := hide hbel; have X1 := hide hx; have XB := hide hbx; have M1 := hide hmx; have FX := hide hfx; clear o1 hbel hx hbx hmx hfx
      have i1 : (0 : Int) ≤ (k : Int) := by omega
      have i2 : (k : Int) < (n : Int) := by omega
      have Ac0_2 := (unhide A).cell 0 rfl; have Ac1_2 := (unhide A).cell 1 rfl; have ec0_3 := (br_of (unhide S1).row (unhide X1)).1
      simp only at ec0_3
      have ec1_3 := (br_of (unhide S1).row (unhide X1)).2.1
      simp only at ec1_3
      have ec2_3 := (br_of (unhide S1).row (unhide X1)).2.2.1
      simp only at ec2_3
      have ec3_3 := (br_of (unhide S1).row (unhide X1)).2.2.2.1
      simp only at ec3_3
      have ec4_3 := (br_of (unhide S1).row (unhide X1)).2.2.2.2.1
      simp only at ec4_3
      have ec5_3 := (br_of (unhide S1).row (unhide X1)).2.2.2.2.2.1
      simp only at ec5_3
      have ec6_3 := (br_of (unhide S1).row (unhide X1)).2.2.2.2.2.2
      simp only at ec6_3
      cases hd : (b.name.toList == name.toList) with
      | false =>
        have NX := hide (none_more (unhide XB) hd (unhide HNO))
        go_wp2
        go_roundw
        case rel => exact ⟨k + 1, by omega, by go_num, unhide NX, unhide R, unhide A, unhide S1, unhide BB⟩
        case measure => simp [intOf]; omega
      | true =>
        have ANS : Hid (atV s name = (b, true)) := atV_some (boxAt_first (unhide XB) hd (unhide HNO))
        have hbel9 : w.heap.size ≤ wo.heap.size := (unhide BB).size
        go_wp2_with fail; clear Ac0_2 Ac1_2 ec0_3 ec1_3 ec2_3 ec3_3 ec4_3 ec5_3 ec6_3
        refine (l08Copy_any b _ _ B _ (Nat.le_trans (unhide FX).mails (by decide)) (Nat.le_trans (unhide FX).tombs (by decide)) ((unhide S1).each _ (unhide M1))).mono ?_
        rintro e way1 ⟨mC, tC, rfl, oC, hb⟩
        obtain ⟨amC, cmC, rfl⟩ := g_shape oC.1
        obtain ⟨atC, ctC, rfl⟩ := g_shape oC.2
        have NC := hide (OwnBx.base oC); replace A := hide ((unhide A).ups hb); replace R := hide ((unhide R).ups hb); replace S1 := hide ((unhide S1).up hb); have sz101 := hide (hb.size); replace BB := hide (below_y (unhide BB) hb); clear hb; have OC := hide oC; clear oC; clear hd; have Rf0 := (unhide R).frozen 0; have Rf1 := (unhide R).frozen 1; have Rf2 := (unhide R).frozen 2; have Rf3 := (unhide R).frozen 3; have Rf4 := (unhide R).frozen 4; have Rf5 := (unhide R).frozen 5; have Rf6 := (unhide R).frozen 6; have Re0 := (unhide R).cell 0 rfl; have Re1 := (unhide R).cell 1 rfl; have Re2 := (unhide R).cell 2 rfl; have Re3 := (unhide R).cell 3 rfl; have Re4 := (unhide R).cell 4 rfl; have Re5 := (unhide R).cell 5 rfl; have Re6 := (unhide R).cell 6 rfl; have F := hide (fill7 (unhide R) (.string b.name) (.int .i64 b.valid) (.int .i64 b.next) (.int .i64 b.mod) (.slice amC b.mails.length cmC) (.slice atC b.tombs.length ctC) (.int .i64 b.hor))
        obtain ⟨U, hU⟩ : ∃ U, U = (((((((way1.setCell ⟨wa1.heap.size, 0, none⟩ (.string b.name)).setCell ⟨wa1.heap.size, 1, none⟩ (.int .i64 b.valid)).setCell ⟨wa1.heap.size, 2, none⟩ (.int .i64 b.next)).setCell ⟨wa1.heap.size, 3, none⟩ (.int .i64 b.mod)).setCell ⟨wa1.heap.size, 4, none⟩ (.slice amC b.mails.length cmC)).setCell ⟨wa1.heap.size, 5, none⟩ (.slice atC b.tombs.length ctC)).setCell ⟨wa1.heap.size, 6, none⟩ (.int .i64 b.hor)) := ⟨_, rfl⟩
        have F9 := unhide F
        rw [← hU] at F9
        have EU := hU.symm; clear F hU; have v0 := F9.obj.cell 0 rfl; have v1 := F9.obj.cell 1 rfl; have v2 := F9.obj.cell 2 rfl; have v3 := F9.obj.cell 3 rfl; have v4 := F9.obj.cell 4 rfl; have v5 := F9.obj.cell 5 rfl; have v6 := F9.obj.cell 6 rfl; have F := hide F9; clear F9
        go_wp2_with (refine bodyPost_ret (by simp [results, Try.results54, go_sem, v0, v1, v2, v3, v4, v5, v6]; try rfl) rfl ?_)
        clear EU; have F := unhide F
        rw [unhide ANS]
        have OC9 := unhide OC
        exact ⟨_, _, rfl, OwnBx.based ⟨F.row (by decide) OC9.1, F.row (by decide) OC9.2⟩ hbel9, F.below loR (unhide BB)⟩
    · obtain rfl : k = n := by omega
      have A := hide oA; have R := hide oR; have BB := hide hbel; clear oA oR o1 hbel hlt hk
      have ANS : Hid (atV s name = (bx0, false)) := atV_none (boxAt_none (by have h9 := unhide HNO; rw [List.take_of_length_le (by have := unhide HN; omega)] at h9; exact h9))
      have Ac0_2 := (unhide A).cell 0 rfl; have Ac1_2 := (unhide A).cell 1 rfl; have Rf0 := (unhide R).frozen 0; have Rf1 := (unhide R).frozen 1; have Rf2 := (unhide R).frozen 2; have Rf3 := (unhide R).frozen 3; have Rf4 := (unhide R).frozen 4; have Rf5 := (unhide R).frozen 5; have Rf6 := (unhide R).frozen 6; have Re0 := (unhide R).cell 0 rfl; have Re1 := (unhide R).cell 1 rfl; have Re2 := (unhide R).cell 2 rfl; have Re3 := (unhide R).cell 3 rfl; have Re4 := (unhide R).cell 4 rfl; have Re5 := (unhide R).cell 5 rfl; have Re6 := (unhide R).cell 6 rfl
      have F := hide (fill7 (unhide R) (.string ⟨#[]⟩) (.int .i64 0) (.int .i64 0) (.int .i64 0) (.slice none 0 0) (.slice none 0 0) (.int .i64 0))
      obtain ⟨U, hU⟩ : ∃ U, U = (((((((wo.setCell ⟨wa1.heap.size, 0, none⟩ (.string ⟨#[]⟩)).setCell ⟨wa1.heap.size, 1, none⟩ (.int .i64 0)).setCell ⟨wa1.heap.size, 2, none⟩ (.int .i64 0)).setCell ⟨wa1.heap.size, 3, none⟩ (.int .i64 0)).setCell ⟨wa1.heap.size, 4, none⟩ (.slice none 0 0)).setCell ⟨wa1.heap.size, 5, none⟩ (.slice none 0 0)).setCell ⟨wa1.heap.size, 6, none⟩ (.int .i64 0)) := ⟨_, rfl⟩
      have F9 := unhide F
      rw [← hU] at F9
      have EU := hU.symm; clear F hU; have v0 := F9.obj.cell 0 rfl; have v1 := F9.obj.cell 1 rfl; have v2 := F9.obj.cell 2 rfl; have v3 := F9.obj.cell 3 rfl; have v4 := F9.obj.cell 4 rfl; have v5 := F9.obj.cell 5 rfl; have v6 := F9.obj.cell 6 rfl; have F := hide F9; clear F9
      go_wp2_with (refine bodyPost_ret (by simp [results, Try.results54, go_sem, v0, v1, v2, v3, v4, v5, v6]; try rfl) rfl ?_)
      clear EU; have F := unhide F
      rw [unhide ANS]
      exact ⟨.slice none 0 0, .slice none 0 0, rfl, ⟨World.ownsRow_nil _ _ _ _, World.ownsRow_nil _ _ _ _⟩, F.below loR (unhide BB)⟩
set_option maxHeartbeats 8000000 in
set_option maxRecDepth 100000 in
theorem l09Copy_any (s : Sx) (v : Value) (B : Nat) (w : World) (hf : FitSt s) (h : ReadSt B w v s.boxes) :
    Calls Try.prog 37 #[.agg #[v, .int .i64 s.valid]] w fun e w' => ∃ v', e = .returned (.agg #[v', .int .i64 s.valid]) ∧ ReadSt w.heap.size w' v' s.boxes ∧ Below w.heap.size w w' := by
  obtain ⟨iX, hX, hX0, hX1, hX2⟩ := info_parts Try.infoBox
  obtain ⟨L, hL, h⟩ := h
  obtain ⟨a1, c1, rfl⟩ := g_shape h.row
  obtain ⟨n, hn⟩ : ∃ n, n = s.boxes.length := ⟨_, rfl⟩
  have hn1 : L.length = n := by rw [hn, ← hL, List.length_map]
  have hnl := hf.len
  rw [← hn] at hnl
  have S1 := hide h
  rw [hn1] at S1 ⊢
  have FE := hide hf.each; have HL := hide hL; have HN := hide hn; have HN1 := hide hn1; clear h hL hn hn1 hf
  have LTS : Hid (∀ g, Value.ownBlock (.slice a1 n c1) = some g → g < w.heap.size) := fun g hg => (World.ownsRow.lt (unhide S1).row g hg).2
  have OR1 : Hid (OwnBr B w (.slice a1 n c1) L) := (unhide S1).row
  have EB1 : Hid (EachB B w L) := (unhide S1).each
  clear S1; have BB := hide (Below.refl w.heap.size w)
  obtain ⟨wc1, hA⟩ : ∃ X, X = w.alloc (.cells ([.slice a1 n c1, .int .i64 s.valid] : List Value).toArray 33) := ⟨_, rfl⟩
  have Ax : HasObj wc1 w.heap.size 33 [.slice a1 n c1, .int .i64 s.valid] := by rw [hA]; exact HasObj.new _ _ _
  have hbn : Below w.heap.size w wc1 := by rw [hA]; exact (Below.refl _ _).alloc (Nat.le_refl _) _
  have loA : w.heap.size ≤ w.heap.size := (unhide BB).size
  have EA := hA.symm; clear hA; replace OR1 := hide ((unhide OR1).up hbn); replace EB1 := hide ((unhide EB1).up hbn); have sz1 := hide (hbn.size); replace BB := hide (below_y (unhide BB) hbn); clear hbn; have A := hide Ax; clear Ax
  obtain ⟨wc2, hR⟩ : ∃ X, X = wc1.alloc (.cells ([.slice none 0 0, .int .i64 0] : List Value).toArray 33) := ⟨_, rfl⟩
  have Rx : HasObj wc2 wc1.heap.size 33 [.slice none 0 0, .int .i64 0] := by rw [hR]; exact HasObj.new _ _ _
  have hbn : Below wc1.heap.size wc1 wc2 := by rw [hR]; exact (Below.refl _ _).alloc (Nat.le_refl _) _
  have neAR : w.heap.size ≠ wc1.heap.size := Nat.ne_of_lt (unhide A).lt
  have loR : w.heap.size ≤ wc1.heap.size := (unhide BB).size
  have ER := hR.symm; clear hR; replace A := hide ((unhide A).ups hbn); replace OR1 := hide ((unhide OR1).up hbn); replace EB1 := hide ((unhide EB1).up hbn); have sz2 := hide (hbn.size); replace BB := hide (below_y (unhide BB) hbn); clear hbn; have R := hide Rx; clear Rx; have Ac0_1 := (unhide A).cell 0 rfl; have Ac1_1 := (unhide A).cell 1 rfl
  obtain ⟨wc3, hO⟩ : ∃ X, X = wc2.alloc (.cells ([.slice none 0 0, .int .i64 s.valid] : List Value).toArray 33) := ⟨_, rfl⟩
  have Ox : HasObj wc3 wc2.heap.size 33 [.slice none 0 0, .int .i64 s.valid] := by rw [hO]; exact HasObj.new _ _ _
  have hbn : Below wc2.heap.size wc2 wc3 := by rw [hO]; exact (Below.refl _ _).alloc (Nat.le_refl _) _
  have neAO : w.heap.size ≠ wc2.heap.size := Nat.ne_of_lt (unhide A).lt
  have neRO : wc1.heap.size ≠ wc2.heap.size := Nat.ne_of_lt (unhide R).lt
  have loO : w.heap.size ≤ wc2.heap.size := (unhide BB).size
  have EO := hO.symm; clear hO; replace A := hide ((unhide A).ups hbn); replace R := hide ((unhide R).ups hbn); replace OR1 := hide ((unhide OR1).up hbn); replace EB1 := hide ((unhide EB1).up hbn); have sz3 := hide (hbn.size); replace BB := hide (below_y (unhide BB) hbn); clear hbn; have O := hide Ox; clear Ox
  go_enter Try.func37, Try.ntmps37
  go_wp2
  clear Ac0_1 Ac1_1 EA ER EO
  go_loopw [4] (fun i wr => ∃ (k : Nat) (L2 : List Lb) (a2 : Option Addr) (c2 : Nat), k ≤ n ∧ i = .int .i64 k ∧ L2.map (·.b) = s.boxes.take k ∧ HasObj wr (w.heap.size) 33 [.slice a1 n c1, .int .i64 s.valid] ∧ HasObj wr (wc1.heap.size) 33 [.slice none 0 0, .int .i64 0] ∧ HasObj wr (wc2.heap.size) 33 [.slice a2 L2.length c2, .int .i64 s.valid] ∧ OwnBr B wr (.slice a1 n c1) L ∧ EachB B wr L ∧ OwnBr w.heap.size wr (.slice a2 L2.length c2) L2 ∧ EachB w.heap.size wr L2 ∧ Below w.heap.size w wr) (fun i _ => n - (intOf i).toNat)
  case atStart => exact ⟨0, [], none, 0, Nat.zero_le _, rfl, by simp, unhide A, unhide R, unhide O, unhide OR1, unhide EB1, World.ownsRow_nil _ _ _ _, EachB.nil _ _, unhide BB⟩
  clear OR1 EB1 BB A R O
  case round =>
    obtain ⟨k, L2, a2, c2, hk, rfl, hL2, oA, oR, oO, o1, oe, o2, oe2, hbel⟩ := hrel
    obtain ⟨wo, hwo⟩ : ∃ wo, wo = wr := ⟨_, rfl⟩
    subst hwo
    have HL2 := hide hL2; clear hL2
    by_cases hlt : k < n
    · have hkl : k < L.length := by rw [unhide HN1]; exact hlt
      have hx : L[k]? = some L[k] := List.getElem?_eq_getElem hkl
      have hbx : s.boxes[k]? = some L[k].b := by rw [← unhide HL, List.getElem?_map, hx]; rfl
      have hmx := List.getElem_mem hkl; have hfx := unhide FE _ (List.mem_of_getElem? hbx)
      obtain ⟨g1, q1, e3, _, _, _⟩ := br_read o1 hx
      have e5 := (Value.slice.inj e3).1; clear e3
      subst e5
      generalize L[k] = x at *
      obtain ⟨b, m, t⟩ := x
      simp only at hbx hfx
      obtain ⟨am, cm, ee1⟩ := g_shape (oe _ hmx).1
      obtain ⟨at1, ct1, ee2⟩ := g_shape (oe _ hmx).2
      simp only at ee1 ee2
      subst ee1 ee2
      have A := hide oA; have R := hide oR; have O := hide oO; have OR1 := hide o1; have EB1 := hide oe; have OR2 := hide o2; have EB2 := hide oe2; have BB := hide hbel; have X1 := hide hx; have XB := hide hbx; have M1 := hide hmx; have FX := hide hfx
      have hlo9 : w.heap.size ≤ wo.heap.size := hbel.size
      clear oA oR oO o1 oe o2 oe2 hbel hx hbx hmx hfx
      have i1 : (0 : Int) ≤ (k : Int) := by omega
      have i2 : (k : Int) < (n : Int) := by omega
      have LK : L2.length = k := by have h9 := congrArg List.length (unhide HL2); rw [List.length_map, List.length_take, ← unhide HN] at h9; omega
      have HLK := hide LK; clear LK; have Ac0_2 := (unhide A).cell 0 rfl; have Ac1_2 := (unhide A).cell 1 rfl; have Oc0_3 := (unhide O).cell 0 rfl; have Oc1_3 := (unhide O).cell 1 rfl
      go_wp2
      clear Ac0_2 Ac1_2 Oc0_3 Oc1_3
      refine lateBegin (S := fun w' => w'.cell? ⟨w.heap.size, 0, none⟩ = some (.slice (some ⟨g1, 0, none⟩) n c1) ∧ w'.cell? ⟨wc2.heap.size, 0, none⟩ = some (.slice a2 L2.length c2) ∧ w'.cell? ⟨g1, k * 7, none⟩ = some (.string b.name) ∧ w'.cell? ⟨g1, k * 7 + 1, none⟩ = some (.int .i64 b.valid) ∧ w'.cell? ⟨g1, k * 7 + 2, none⟩ = some (.int .i64 b.next) ∧ w'.cell? ⟨g1, k * 7 + 3, none⟩ = some (.int .i64 b.mod) ∧ w'.cell? ⟨g1, k * 7 + 4, none⟩ = some (.slice am b.mails.length cm) ∧ w'.cell? ⟨g1, k * 7 + 5, none⟩ = some (.slice at1 b.tombs.length ct1) ∧ w'.cell? ⟨g1, k * 7 + 6, none⟩ = some (.int .i64 b.hor)) 11 (by kernel_rfl) (⟨(unhide A).cell 0 rfl, (unhide O).cell 0 rfl, (br_of (unhide OR1) (unhide X1)).1, (br_of (unhide OR1) (unhide X1)).2.1, (br_of (unhide OR1) (unhide X1)).2.2.1, (br_of (unhide OR1) (unhide X1)).2.2.2.1, (br_of (unhide OR1) (unhide X1)).2.2.2.2.1, (br_of (unhide OR1) (unhide X1)).2.2.2.2.2.1, (br_of (unhide OR1) (unhide X1)).2.2.2.2.2.2⟩) (fun hHeld => ?_)
      replace A := hide ((unhide A).drew); replace R := hide ((unhide R).drew); replace O := hide ((unhide O).drew); replace OR1 := hide ((unhide OR1).drew); replace EB1 := hide ((unhide EB1).drew); replace OR2 := hide ((unhide OR2).drew); replace EB2 := hide ((unhide EB2).drew); replace BB := hide ((unhide BB).drew)
      have sz101 : Hid (wo.heap.size ≤ wo.drew.heap.size) := Nat.le_refl _
      refine lateTake 0 (some 15) ?_ rfl (by kernel_rfl) (by kernel_rfl) (by kernel_rfl) (by kernel_rfl) rfl (fun _ _ _ h => h) (by rfl) (by assumption) ?_ ?_; rotate_left; (intro w hSw; (try dsimp only at hSw); go_simp <;> with_reducible rfl); simp only [Act.put, List.setIfInBounds_toArray, List.set_cons_zero, List.set_cons_succ]
      refine lateTake 1 (some 16) ?_ rfl (by kernel_rfl) (by kernel_rfl) (by kernel_rfl) (by kernel_rfl) rfl (fun _ _ _ h => h) (by rfl) (by assumption) ?_ ?_; rotate_left; (intro w hSw; (try dsimp only at hSw); go_simp <;> with_reducible rfl); simp only [Act.put, List.setIfInBounds_toArray, List.set_cons_zero, List.set_cons_succ]
      refine lateTake 2 (some 17) ?_ rfl (by kernel_rfl) (by kernel_rfl) (by kernel_rfl) (by kernel_rfl) rfl (fun _ _ _ h => h) (by rfl) (by assumption) ?_ ?_; rotate_left; (intro w hSw; (try dsimp only at hSw); go_simp <;> with_reducible rfl); simp only [Act.put, List.setIfInBounds_toArray, List.set_cons_zero, List.set_cons_succ]
      refine lateTake 3 (some 18) ?_ rfl (by kernel_rfl) (by kernel_rfl) (by kernel_rfl) (by kernel_rfl) rfl (fun _ _ _ h => h) (by rfl) (by assumption) ?_ ?_; rotate_left; (intro w hSw; (try dsimp only at hSw); go_simp <;> with_reducible rfl); simp only [Act.put, List.setIfInBounds_toArray, List.set_cons_zero, List.set_cons_succ]
      refine lateTake 4 (some 19) ?_ rfl (by kernel_rfl) (by kernel_rfl) (by kernel_rfl) (by kernel_rfl) rfl (fun _ _ _ h => h) (by rfl) (by assumption) ?_ ?_; rotate_left; (intro w hSw; (try dsimp only at hSw); go_simp <;> with_reducible rfl); simp only [Act.put, List.setIfInBounds_toArray, List.set_cons_zero, List.set_cons_succ]
      refine lateTake 5 (some 20) ?_ rfl (by kernel_rfl) (by kernel_rfl) (by kernel_rfl) (by kernel_rfl) rfl (fun _ _ _ h => h) (by rfl) (by assumption) ?_ ?_; rotate_left; (intro w hSw; (try dsimp only at hSw); go_simp <;> with_reducible rfl); simp only [Act.put, List.setIfInBounds_toArray, List.set_cons_zero, List.set_cons_succ]
      refine lateTake 6 (some 21) ?_ rfl (by kernel_rfl) (by kernel_rfl) (by kernel_rfl) (by kernel_rfl) rfl (fun _ _ _ h => h) (by rfl) (by assumption) ?_ ?_; rotate_left; (intro w hSw; (try dsimp only at hSw); go_simp <;> with_reducible rfl); simp only [Act.put, List.setIfInBounds_toArray, List.set_cons_zero, List.set_cons_succ]
      refine lateStep 7 (by kernel_rfl) rfl (by rfl) (fun K hK => ?_)
      go_simp
      refine (l08Copy_any b _ _ B _ (Nat.le_trans (unhide FX).mails (by decide)) (Nat.le_trans (unhide FX).tombs (by decide)) ((unhide EB1) _ (unhide M1))).mono ?_
      rintro e wcr1 ⟨mC, tC, rfl, oC, hb⟩
      obtain ⟨amC, cmC, rfl⟩ := g_shape oC.1
      obtain ⟨atC, ctC, rfl⟩ := g_shape oC.2
      have OC_ := hide (oC.based hlo9); clear oC; replace A := hide ((unhide A).ups hb); replace R := hide ((unhide R).ups hb); replace O := hide ((unhide O).ups hb); replace OR1 := hide ((unhide OR1).up hb); replace EB1 := hide ((unhide EB1).up hb); replace OR2 := hide ((unhide OR2).up hb); replace EB2 := hide ((unhide EB2).up hb); have sz102 := hide (hb.size); replace BB := hide (below_y (unhide BB) hb); clear hb; have OC := OC_; clear OC_; go_wp2_with fail
      refine hK.out _ _ (⟨(unhide A).cell 0 rfl, (unhide O).cell 0 rfl, (br_of (unhide OR1) (unhide X1)).1, (br_of (unhide OR1) (unhide X1)).2.1, (br_of (unhide OR1) (unhide X1)).2.2.1, (br_of (unhide OR1) (unhide X1)).2.2.2.1, (br_of (unhide OR1) (unhide X1)).2.2.2.2.1, (br_of (unhide OR1) (unhide X1)).2.2.2.2.2.1, (br_of (unhide OR1) (unhide X1)).2.2.2.2.2.2⟩) (fun hHeld2 => ?_)
      clear hK K hHeld; have hHeld := hHeld2; clear hHeld2
      try simp only [Act.put, List.setIfInBounds_toArray, List.set_cons_zero, List.set_cons_succ]
      refine lateStep 8 (by kernel_rfl) rfl (by rfl) (fun K hK => ?_)
      go_simp
      have hA : Below wcr1.heap.size wcr1 (wcr1.alloc (.cells ((lbC (⟨b, .slice amC b.mails.length cmC, .slice atC b.tombs.length ctC⟩ : Lb)) : List Value).toArray 39)) := (Below.refl _ _).alloc (Nat.le_refl _) _
      replace A := hide ((unhide A).ups hA); replace R := hide ((unhide R).ups hA); replace O := hide ((unhide O).ups hA); replace OR1 := hide ((unhide OR1).up hA); replace EB1 := hide ((unhide EB1).up hA); replace OR2 := hide ((unhide OR2).up hA); replace EB2 := hide ((unhide EB2).up hA); replace OC := hide ((unhide OC).up hA); have sz103 := hide (hA.size); replace BB := hide (below_y (unhide BB) hA); clear hA
      refine hK.out _ _ (⟨(unhide A).cell 0 rfl, (unhide O).cell 0 rfl, (br_of (unhide OR1) (unhide X1)).1, (br_of (unhide OR1) (unhide X1)).2.1, (br_of (unhide OR1) (unhide X1)).2.2.1, (br_of (unhide OR1) (unhide X1)).2.2.2.1, (br_of (unhide OR1) (unhide X1)).2.2.2.2.1, (br_of (unhide OR1) (unhide X1)).2.2.2.2.2.1, (br_of (unhide OR1) (unhide X1)).2.2.2.2.2.2⟩) (fun hHeld2 => ?_)
      clear hK K hHeld; have hHeld := hHeld2; clear hHeld2
      try simp only [Act.put, List.setIfInBounds_toArray, List.set_cons_zero, List.set_cons_succ]
      have oa := unhide OR2; have ldl := (unhide BB).size
      refine lateStep 9 (by kernel_rfl) rfl (by rfl) (fun K hK => ?_)
      refine wp_append_lies _ (.tmp 16) (.tmp 23) 31 rfl (w.heap.size) 39 iX _ 7 96 Try.underlying31 hX hX0 hX1 hX2 rfl (by decide) (.slice a2 L2.length c2) _ _ rfl oa ⟨wcr1.heap.size, 0, none⟩ 1 1 (lbC (⟨b, .slice amC b.mails.length cmC, .slice atC b.tombs.length ctC⟩ : Lb)) rfl rfl (newsC _ _) ?c2 (by decide) ?c3 ?c4 ?c5 (wcr1.heap.size + 1) (by simp) ?_
      case c2 => intro u hu; simp [lbC] at hu; rcases hu with rfl | rfl | rfl | rfl | rfl | rfl | rfl <;> rfl
      case c3 => unfold maxLen; have := unhide HLK; omega
      case c4 => have := unhide HLK; omega
      case c5 => have q1_ := (unhide BB).size; have sz101_ := unhide sz101; have sz102_ := unhide sz102; have sz103_ := unhide sz103; (try simp at q1_); (try simp); omega
      intro gcr2 capcr2 wcr2 hown hgr hat hlt_
      have A_ := hide ((unhide A).kept hgr (fun e => (unhide A).not_row (by decide) oa e.symm))
      have R_ := hide ((unhide R).kept hgr (fun e => (unhide R).not_row (by decide) oa e.symm))
      have O_ := hide ((unhide O).kept hgr (fun e => (unhide O).not_row (by decide) oa e.symm))
      have OR1_ : Hid (OwnBr B wcr2 (.slice (some ⟨g1, 0, none⟩) n c1) (L)) := g_aside (unhide OR1) hgr (fun x hx hx2 => by have q1_ := unhide LTS x hx2; have q2_ := (World.ownsRow.lt oa x hx).1; omega)
      have EB1_ : Hid (EachB B wcr2 (L)) := (unhide EB1).aside oa hgr (by decide) (by decide)
      have EB2_ : Hid (EachB w.heap.size wcr2 (L2)) := (unhide EB2).aside oa hgr (by decide) (by decide)
      have OC_ : Hid (OwnBx w.heap.size wcr2 (.slice amC b.mails.length cmC) (.slice atC b.tombs.length ctC) b) := ⟨g_aside (unhide OC).1 hgr (fun x hx => rows_apart oa (unhide OC).1 (by decide) x hx), g_aside (unhide OC).2 hgr (fun x hx => rows_apart oa (unhide OC).2 (by decide) x hx)⟩
      have OR2_ : Hid (OwnBr (w.heap.size) wcr2 (.slice (some ⟨gcr2, 0, none⟩) (L2.length + 1) capcr2) (L2 ++ [(⟨b, .slice amC b.mails.length cmC, .slice atC b.tombs.length ctC⟩ : Lb)])) := by exact OwnBr.snoc hown
      have BB_ : Hid (Below w.heap.size w wcr2) := (unhide BB).grown hgr (unhide BB).size (fun b hb => by have q2_ := (World.ownsRow.lt oa b hb).1; have sz101_ := unhide sz101; have sz102_ := unhide sz102; have sz103_ := unhide sz103; omega)
      have sz104 : Hid ((wcr1.alloc (.cells ((lbC (⟨b, .slice amC b.mails.length cmC, .slice atC b.tombs.length ctC⟩ : Lb)) : List Value).toArray 39)).heap.size ≤ wcr2.heap.size) := hgr.size
      replace A := A_; clear A_; replace R := R_; clear R_; replace O := O_; clear O_; replace OR1 := OR1_; clear OR1_; replace EB1 := EB1_; clear EB1_; replace OR2 := OR2_; clear OR2_; replace EB2 := EB2_; clear EB2_; replace OC := OC_; clear OC_; replace BB := BB_; clear BB_; clear hown hgr hat hlt_ oa ldl
      refine hK.out _ _ (⟨(unhide A).cell 0 rfl, (unhide O).cell 0 rfl, (br_of (unhide OR1) (unhide X1)).1, (br_of (unhide OR1) (unhide X1)).2.1, (br_of (unhide OR1) (unhide X1)).2.2.1, (br_of (unhide OR1) (unhide X1)).2.2.2.1, (br_of (unhide OR1) (unhide X1)).2.2.2.2.1, (br_of (unhide OR1) (unhide X1)).2.2.2.2.2.1, (br_of (unhide OR1) (unhide X1)).2.2.2.2.2.2⟩) (fun hHeld2 => ?_)
      clear hK K hHeld; have hHeld := hHeld2; clear hHeld2
      try simp only [Act.put, List.setIfInBounds_toArray, List.set_cons_zero, List.set_cons_succ]
      refine lateStep 10 (by kernel_rfl) rfl (by rfl) (fun K hK => ?_)
      go_simp
      refine hK.out _ _ (⟨(unhide A).cell 0 rfl, (unhide O).cell 0 rfl, (br_of (unhide OR1) (unhide X1)).1, (br_of (unhide OR1) (unhide X1)).2.1, (br_of (unhide OR1) (unhide X1)).2.2.1, (br_of (unhide OR1) (unhide X1)).2.2.2.1, (br_of (unhide OR1) (unhide X1)).2.2.2.2.1, (br_of (unhide OR1) (unhide X1)).2.2.2.2.2.1, (br_of (unhide OR1) (unhide X1)).2.2.2.2.2.2⟩) (fun hHeld2 => ?_)
      clear hK K hHeld; have hHeld := hHeld2; clear hHeld2
      try simp only [Act.put, List.setIfInBounds_toArray, List.set_cons_zero, List.set_cons_succ]
      have Ofz0_4 := (unhide O).frozen 0; have Ocz0_4 := (unhide O).cell 0 rfl
      obtain ⟨wcr3, hst⟩ : ∃ X, X = wcr2.setCell ⟨wc2.heap.size, 0, none⟩ (.slice (some ⟨gcr2, 0, none⟩) (L2.length + 1) capcr2) := ⟨_, rfl⟩
      have OR1_ : Hid (OwnBr B wcr3 (.slice (some ⟨g1, 0, none⟩) n c1) (L)) := by show OwnBr _ _ _ _; rw [hst]; exact (unhide O).row (j := 0) (by decide) (unhide OR1) _
      have EB1_ : Hid (EachB B wcr3 (L)) := by show EachB _ _ _; rw [hst]; exact (unhide EB1).set (j := 0) (unhide O) (by decide) (by decide) _
      have OR2_ : Hid (OwnBr w.heap.size wcr3 (.slice (some ⟨gcr2, 0, none⟩) (L2.length + 1) capcr2) (L2 ++ [(⟨b, .slice amC b.mails.length cmC, .slice atC b.tombs.length ctC⟩ : Lb)])) := by show OwnBr _ _ _ _; rw [hst]; exact (unhide O).row (j := 0) (by decide) (unhide OR2) _
      have EB2_ : Hid (EachB w.heap.size wcr3 (L2)) := by show EachB _ _ _; rw [hst]; exact (unhide EB2).set (j := 0) (unhide O) (by decide) (by decide) _
      have OC_ : Hid (OwnBx w.heap.size wcr3 (.slice amC b.mails.length cmC) (.slice atC b.tombs.length ctC) b) := by show OwnBx _ _ _ _ _; rw [hst]; exact ⟨(unhide O).row (j := 0) (by decide) (unhide OC).1 _, (unhide O).row (j := 0) (by decide) (unhide OC).2 _⟩
      have A_ := hide ((unhide A).other (j := 0) neAO (.slice (some ⟨gcr2, 0, none⟩) (L2.length + 1) capcr2))
      rw [← hst] at A_
      have R_ := hide ((unhide R).other (j := 0) neRO (.slice (some ⟨gcr2, 0, none⟩) (L2.length + 1) capcr2))
      rw [← hst] at R_
      have O_ := hide ((unhide O).set 0 (.slice (some ⟨gcr2, 0, none⟩) (L2.length + 1) capcr2))
      rw [← hst] at O_
      have BB_ := hide ((unhide BB).setCell (p := ⟨wc2.heap.size, 0, none⟩) (show w.heap.size ≤ wc2.heap.size from loO) (.slice (some ⟨gcr2, 0, none⟩) (L2.length + 1) capcr2))
      rw [← hst] at BB_
      have sz105 : Hid (wcr2.heap.size ≤ wcr3.heap.size) := by show _ ≤ _; rw [hst]; simp
      replace OR1 := OR1_; clear OR1_; replace EB1 := EB1_; clear EB1_; replace OR2 := OR2_; clear OR2_; replace EB2 := EB2_; clear EB2_; replace OC := OC_; clear OC_; replace A := A_; clear A_; replace R := R_; clear R_; replace O := O_; clear O_; replace BB := BB_; clear BB_; have Est105 := hst.symm; clear hst
      refine lateLast 11 (by decide) (by kernel_rfl) rfl (by rfl) (fun K hK => ?_)
      go_simp
      refine hK.out _ _ ?_
      clear hK K hHeld
      try simp only [Act.put, List.setIfInBounds_toArray, List.set_cons_zero, List.set_cons_succ]
      try rw [Est105]
      clear Ofz0_4 Ocz0_4 Est105
      refine lateDone (by kernel_rfl) ?_ _
      have e9 : L2.length + 1 = (L2 ++ [(⟨b, .slice amC b.mails.length cmC, .slice atC b.tombs.length ctC⟩ : Lb)]).length := by simp
      rw [e9] at O OR2
      clear e9
      have EB9 := hide (EachB.snoc (x := (⟨b, .slice amC b.mails.length cmC, .slice atC b.tombs.length ctC⟩ : Lb)) (unhide EB2) (unhide OC))
      have NX : Hid ((L2 ++ [(⟨b, .slice amC b.mails.length cmC, .slice atC b.tombs.length ctC⟩ : Lb)]).map (·.b) = s.boxes.take (k + 1)) := by show _ = _; rw [List.map_append, unhide HL2, take_snoc (unhide XB)]; rfl
      go_wp2
      go_roundw
      case rel => exact ⟨k + 1, _, _, _, by omega, by go_num, unhide NX, unhide A, unhide R, unhide O, unhide OR1, unhide EB1, unhide OR2, unhide EB9, unhide BB⟩
      case measure => simp [intOf]; omega
    · obtain rfl : k = n := by omega
      have A := hide oA; have R := hide oR; have O := hide oO; have OR2 := hide o2; have EB2 := hide oe2; have BB := hide hbel; clear oA oR oO o1 oe o2 oe2 hbel hlt hk; have Ac0_2 := (unhide A).cell 0 rfl; have Ac1_2 := (unhide A).cell 1 rfl; have Oc0_3 := (unhide O).cell 0 rfl; have Oc1_3 := (unhide O).cell 1 rfl; have Rf0 := (unhide R).frozen 0; have Rf1 := (unhide R).frozen 1; have Re0 := (unhide R).cell 0 rfl; have Re1 := (unhide R).cell 1 rfl; have F := hide (fill2 (unhide R) (.slice a2 L2.length c2) (.int .i64 s.valid))
      obtain ⟨U, hU⟩ : ∃ U, U = ((wo.setCell ⟨wc1.heap.size, 0, none⟩ (.slice a2 L2.length c2)).setCell ⟨wc1.heap.size, 1, none⟩ (.int .i64 s.valid)) := ⟨_, rfl⟩
      have F9 := unhide F
      rw [← hU] at F9
      have EU := hU.symm; clear F hU; have v0 := F9.obj.cell 0 rfl; have v1 := F9.obj.cell 1 rfl; have F := hide F9; clear F9
      go_wp2_with (refine bodyPost_ret (by simp [results, Try.results37, go_sem, v0, v1]; try rfl) rfl ?_)
      clear EU; have F := unhide F
      refine ⟨_, rfl, ⟨L2, ?_, ⟨F.row (by decide) (unhide OR2), fun x hx => ⟨F.row (by decide) ((unhide EB2) x hx).1, F.row (by decide) ((unhide EB2) x hx).2⟩⟩⟩, F.below loR (unhide BB)⟩
      rw [unhide HL2, List.take_of_length_le (by have := unhide HN; omega)]
end Go.Proofs.Ytfemplekibpfoac

/- The specification's PutBox. Made by gen_stores.py. -/
namespace Go.Proofs.Ytfemplekibpfoac
open Go.RowKit
open Plain
set_option linter.unusedVariables false
set_option linter.unusedSimpArgs false

theorem br_store {B g n c : Nat} {W : World} {L : List Lb} (h : W.ownsRow B 39 7 (.slice (some ⟨g, 0, none⟩) n c) n (rowC lbC L)) {k : Nat} {x : Lb} (hget : L[k]? = some x) (y : Lb) :
    (((((((W.setCell ⟨g, k * 7, none⟩ (.string y.b.name)).setCell ⟨g, k * 7 + 1, none⟩ (.int .i64 y.b.valid)).setCell ⟨g, k * 7 + 2, none⟩ (.int .i64 y.b.next)).setCell ⟨g, k * 7 + 3, none⟩ (.int .i64 y.b.mod)).setCell ⟨g, k * 7 + 4, none⟩ (y.m)).setCell ⟨g, k * 7 + 5, none⟩ (y.t)).setCell ⟨g, k * 7 + 6, none⟩ (.int .i64 y.b.hor)).ownsRow B 39 7 (.slice (some ⟨g, 0, none⟩) n c) n (rowC lbC (L.set k y)) ∧ W.grownBy (((((((W.setCell ⟨g, k * 7, none⟩ (.string y.b.name)).setCell ⟨g, k * 7 + 1, none⟩ (.int .i64 y.b.valid)).setCell ⟨g, k * 7 + 2, none⟩ (.int .i64 y.b.next)).setCell ⟨g, k * 7 + 3, none⟩ (.int .i64 y.b.mod)).setCell ⟨g, k * 7 + 4, none⟩ (y.m)).setCell ⟨g, k * 7 + 5, none⟩ (y.t)).setCell ⟨g, k * 7 + 6, none⟩ (.int .i64 y.b.hor)) (some g) := by
  have st0 := h.stored (k * 7) (.string y.b.name)
  rw [show k * 7 = k * 7 + 0 from rfl, rowC_set lbC_len hget (j := 0) (by decide) (⟨⟨y.b.name, x.b.valid, x.b.next, x.b.mod, x.b.mails, x.b.tombs, x.b.hor⟩, x.m, x.t⟩ : Lb) (.string y.b.name) rfl] at st0
  have st1 := st0.1.stored (k * 7 + 1) (.int .i64 y.b.valid)
  rw [rowC_set2 lbC_len hget (⟨⟨y.b.name, x.b.valid, x.b.next, x.b.mod, x.b.mails, x.b.tombs, x.b.hor⟩, x.m, x.t⟩ : Lb) (j := 1) (by decide) (⟨⟨y.b.name, y.b.valid, x.b.next, x.b.mod, x.b.mails, x.b.tombs, x.b.hor⟩, x.m, x.t⟩ : Lb) (.int .i64 y.b.valid) rfl] at st1
  have st2 := st1.1.stored (k * 7 + 2) (.int .i64 y.b.next)
  rw [rowC_set2 lbC_len hget (⟨⟨y.b.name, y.b.valid, x.b.next, x.b.mod, x.b.mails, x.b.tombs, x.b.hor⟩, x.m, x.t⟩ : Lb) (j := 2) (by decide) (⟨⟨y.b.name, y.b.valid, y.b.next, x.b.mod, x.b.mails, x.b.tombs, x.b.hor⟩, x.m, x.t⟩ : Lb) (.int .i64 y.b.next) rfl] at st2
  have st3 := st2.1.stored (k * 7 + 3) (.int .i64 y.b.mod)
  rw [rowC_set2 lbC_len hget (⟨⟨y.b.name, y.b.valid, y.b.next, x.b.mod, x.b.mails, x.b.tombs, x.b.hor⟩, x.m, x.t⟩ : Lb) (j := 3) (by decide) (⟨⟨y.b.name, y.b.valid, y.b.next, y.b.mod, x.b.mails, x.b.tombs, x.b.hor⟩, x.m, x.t⟩ : Lb) (.int .i64 y.b.mod) rfl] at st3
  have st4 := st3.1.stored (k * 7 + 4) (y.m)
  rw [rowC_set2 lbC_len hget (⟨⟨y.b.name, y.b.valid, y.b.next, y.b.mod, x.b.mails, x.b.tombs, x.b.hor⟩, x.m, x.t⟩ : Lb) (j := 4) (by decide) (⟨⟨y.b.name, y.b.valid, y.b.next, y.b.mod, x.b.mails, x.b.tombs, x.b.hor⟩, y.m, x.t⟩ : Lb) (y.m) rfl] at st4
  have st5 := st4.1.stored (k * 7 + 5) (y.t)
  rw [rowC_set2 lbC_len hget (⟨⟨y.b.name, y.b.valid, y.b.next, y.b.mod, x.b.mails, x.b.tombs, x.b.hor⟩, y.m, x.t⟩ : Lb) (j := 5) (by decide) (⟨⟨y.b.name, y.b.valid, y.b.next, y.b.mod, x.b.mails, x.b.tombs, x.b.hor⟩, y.m, y.t⟩ : Lb) (y.t) rfl] at st5
  have st6 := st5.1.stored (k * 7 + 6) (.int .i64 y.b.hor)
  rw [rowC_set2 lbC_len hget (⟨⟨y.b.name, y.b.valid, y.b.next, y.b.mod, x.b.mails, x.b.tombs, x.b.hor⟩, y.m, y.t⟩ : Lb) (j := 6) (by decide) y (.int .i64 y.b.hor) rfl] at st6
  exact ⟨st6.1, g_store (g_store (g_store (g_store (g_store (g_store (g_store (g_self _ _) _) _) _) _) _) _) _⟩
set_option maxHeartbeats 8000000 in
set_option maxRecDepth 100000 in
theorem spec_PutBox_any (s : Sx) (b : Bx) (v m t : Value) (B B2 : Nat) (w : World) (hf : FitSt s) (hfb : FitBx b) (h : ReadSt B w v s.boxes) (hb : OwnBx B2 w m t b) :
    Calls Try.prog 10 #[.agg #[v, .int .i64 s.valid], boxV b m t] w fun e w' => ∃ v', e = .returned (.agg #[v', .int .i64 s.valid]) ∧ ReadSt w.heap.size w' v' (putX b s.boxes) ∧ Below w.heap.size w w' := by
  obtain ⟨a0, c0, rfl⟩ := h.shape
  obtain ⟨am, cm, rfl⟩ := g_shape hb.1
  obtain ⟨at1, ct1, rfl⟩ := g_shape hb.2
  have S0 := hide h; have OB := hide hb; have FT := hide hf; have FB := hide hfb; have hnl := hf.len; clear h hb hf hfb; have BB := hide (Below.refl w.heap.size w)
  obtain ⟨wp1, hA⟩ : ∃ X, X = w.alloc (.cells ([.slice a0 s.boxes.length c0, .int .i64 s.valid] : List Value).toArray 33) := ⟨_, rfl⟩
  have Ax : HasObj wp1 w.heap.size 33 [.slice a0 s.boxes.length c0, .int .i64 s.valid] := by rw [hA]; exact HasObj.new _ _ _
  have hbn : Below w.heap.size w wp1 := by rw [hA]; exact (Below.refl _ _).alloc (Nat.le_refl _) _
  have loA : w.heap.size ≤ w.heap.size := (unhide BB).size
  have EA := hA.symm; clear hA; replace S0 := hide ((unhide S0).up hbn); replace OB := hide ((unhide OB).up hbn); have sz1 := hide (hbn.size); replace BB := hide (below_y (unhide BB) hbn); clear hbn; have A := hide Ax; clear Ax
  obtain ⟨wp2, hV⟩ : ∃ X, X = wp1.alloc (.cells ([.string b.name, .int .i64 b.valid, .int .i64 b.next, .int .i64 b.mod, .slice am b.mails.length cm, .slice at1 b.tombs.length ct1, .int .i64 b.hor] : List Value).toArray 39) := ⟨_, rfl⟩
  have Vx : HasObj wp2 wp1.heap.size 39 [.string b.name, .int .i64 b.valid, .int .i64 b.next, .int .i64 b.mod, .slice am b.mails.length cm, .slice at1 b.tombs.length ct1, .int .i64 b.hor] := by rw [hV]; exact HasObj.new _ _ _
  have hbn : Below wp1.heap.size wp1 wp2 := by rw [hV]; exact (Below.refl _ _).alloc (Nat.le_refl _) _
  have neAV : w.heap.size ≠ wp1.heap.size := Nat.ne_of_lt (unhide A).lt
  have loV : w.heap.size ≤ wp1.heap.size := (unhide BB).size
  have EV := hV.symm; clear hV; replace A := hide ((unhide A).ups hbn); replace S0 := hide ((unhide S0).up hbn); replace OB := hide ((unhide OB).up hbn); have sz2 := hide (hbn.size); replace BB := hide (below_y (unhide BB) hbn); clear hbn; have V := hide Vx; clear Vx
  obtain ⟨wp3, hR⟩ : ∃ X, X = wp2.alloc (.cells ([.slice none 0 0, .int .i64 0] : List Value).toArray 33) := ⟨_, rfl⟩
  have Rx : HasObj wp3 wp2.heap.size 33 [.slice none 0 0, .int .i64 0] := by rw [hR]; exact HasObj.new _ _ _
  have hbn : Below wp2.heap.size wp2 wp3 := by rw [hR]; exact (Below.refl _ _).alloc (Nat.le_refl _) _
  have neAR : w.heap.size ≠ wp2.heap.size := Nat.ne_of_lt (unhide A).lt
  have neVR : wp1.heap.size ≠ wp2.heap.size := Nat.ne_of_lt (unhide V).lt
  have loR : w.heap.size ≤ wp2.heap.size := (unhide BB).size
  have ER := hR.symm; clear hR; replace A := hide ((unhide A).ups hbn); replace V := hide ((unhide V).ups hbn); replace S0 := hide ((unhide S0).up hbn); replace OB := hide ((unhide OB).up hbn); have sz3 := hide (hbn.size); replace BB := hide (below_y (unhide BB) hbn); clear hbn; have R := hide Rx; clear Rx; have Ac0_1 := (unhide A).cell 0 rfl; have Ac1_1 := (unhide A).cell 1 rfl
  go_enter Try.func10, Try.ntmps10
  go_wp2_with fail; clear Ac0_1 Ac1_1 EA EV ER
  have LO : Hid (w.heap.size ≤ wp3.heap.size) := (unhide BB).size
  refine (l09Copy_any s _ _ _ (unhide FT) (unhide S0)).mono ?_
  rintro e wp4 ⟨v9, rfl, oS, hb⟩
  obtain ⟨L, hL, oL⟩ := oS
  obtain ⟨a1, c1, rfl⟩ := g_shape oL.row
  obtain ⟨n, hn⟩ : ∃ n, n = s.boxes.length := ⟨_, rfl⟩
  have hn1 : L.length = n := by rw [hn, ← hL, List.length_map]
  rw [← hn] at hnl
  have OR_ : Hid (wp4.ownsRow w.heap.size 39 7 (.slice a1 n c1) n (rowC lbC L)) := by have h9 := (oL.based (unhide LO)).row; unfold OwnBr at h9; rw [hn1] at h9; exact h9
  have EB_ : Hid (EachB w.heap.size wp4 L) := (oL.based (unhide LO)).each
  have VNE_ : Hid (∀ g, a1 = some ⟨g, 0, none⟩ → g ≠ wp1.heap.size) := fun g hg => by have q1_ := (World.ownsRow.lt oL.row g (by rw [hg]; rfl)).1; have q2_ := (unhide V).lt; omega
  rw [hn1]
  have HL := hide hL; have HN := hide hn; have HN1 := hide hn1; clear oL hL hn hn1 S0; replace A := hide ((unhide A).ups hb); replace V := hide ((unhide V).ups hb); replace R := hide ((unhide R).ups hb); replace OB := hide ((unhide OB).up hb); have sz4 := hide (hb.size); replace BB := hide (below_y (unhide BB) hb); clear hb; have ORW := OR_; have EB := EB_; have VNE := VNE_; clear OR_ EB_ VNE_
  obtain ⟨wp5, hO⟩ : ∃ X, X = wp4.alloc (.cells ([.slice a1 n c1, .int .i64 s.valid] : List Value).toArray 33) := ⟨_, rfl⟩
  have Ox : HasObj wp5 wp4.heap.size 33 [.slice a1 n c1, .int .i64 s.valid] := by rw [hO]; exact HasObj.new _ _ _
  have hbn : Below wp4.heap.size wp4 wp5 := by rw [hO]; exact (Below.refl _ _).alloc (Nat.le_refl _) _
  have neAO : w.heap.size ≠ wp4.heap.size := Nat.ne_of_lt (unhide A).lt
  have neVO : wp1.heap.size ≠ wp4.heap.size := Nat.ne_of_lt (unhide V).lt
  have neRO : wp2.heap.size ≠ wp4.heap.size := Nat.ne_of_lt (unhide R).lt
  have loO : w.heap.size ≤ wp4.heap.size := (unhide BB).size
  have EO := hO.symm; clear hO; replace A := hide ((unhide A).ups hbn); replace V := hide ((unhide V).ups hbn); replace R := hide ((unhide R).ups hbn); replace OB := hide ((unhide OB).up hbn); replace EB := hide ((unhide EB).up hbn); have sz5 := hide (hbn.size); replace BB := hide (below_y (unhide BB) hbn); clear hbn; have O := hide Ox; clear Ox
  replace ORW : Hid ((wp4.alloc (.cells ([.slice a1 n c1, .int .i64 s.valid] : List Value).toArray 33)).ownsRow w.heap.size 39 7 (.slice a1 n c1) n (rowC lbC L)) := g_stays (unhide ORW) ((Below.refl wp4.heap.size wp4).alloc (Nat.le_refl _) _)
  rw [EO] at ORW
  go_wp2
  clear EO
  go_loopw [6] (fun i wr => ∃ k : Nat, k ≤ n ∧ i = .int .i64 k ∧ (∀ y ∈ s.boxes.take k, sameN b.name y = false) ∧ HasObj wr (wp1.heap.size) 39 [.string b.name, .int .i64 b.valid, .int .i64 b.next, .int .i64 b.mod, .slice am b.mails.length cm, .slice at1 b.tombs.length ct1, .int .i64 b.hor] ∧ HasObj wr (wp2.heap.size) 33 [.slice none 0 0, .int .i64 0] ∧ HasObj wr (wp4.heap.size) 33 [.slice a1 n c1, .int .i64 s.valid] ∧ wr.ownsRow w.heap.size 39 7 (.slice a1 n c1) n (rowC lbC L) ∧ EachB w.heap.size wr L ∧ OwnBx B2 wr (.slice am b.mails.length cm) (.slice at1 b.tombs.length ct1) b ∧ Below w.heap.size w wr) (fun i _ => n - (intOf i).toNat)
  case atStart => exact ⟨0, Nat.zero_le _, rfl, by simp, unhide V, unhide R, unhide O, unhide ORW, unhide EB, unhide OB, unhide BB⟩
  clear V R O ORW EB OB BB
  case round =>
    obtain ⟨k, hk, rfl, hno, oV, oR, oO, orow, oe, obx, hbel⟩ := hrel
    obtain ⟨wo, hwo⟩ : ∃ wo, wo = wr := ⟨_, rfl⟩
    subst hwo
    have HNO := hide hno; clear hno
    by_cases hlt : k < n
    · have hkl : k < L.length := by rw [unhide HN1]; exact hlt
      have hx : L[k]? = some L[k] := List.getElem?_eq_getElem hkl
      have hbx : s.boxes[k]? = some L[k].b := by rw [← unhide HL, List.getElem?_map, hx]; rfl
      have hrw : OwnBr w.heap.size wo (.slice a1 n c1) L := by unfold OwnBr; rw [unhide HN1]; exact orow
      obtain ⟨g1, q1, e3, _, _, _⟩ := br_read hrw hx
      have e5 := (Value.slice.inj e3).1; clear e3 hrw
      subst e5
      generalize L[k] = x at *
      have V := hide oV; have R := hide oR; have O := hide oO; have ORW := hide orow; have EB := hide oe; have OB := hide obx; have BB := hide hbel; have X1 := hide hx; have XB := hide hbx; clear oV oR oO orow oe obx hbel hx hbx
      have i1 : (0 : Int) ≤ (k : Int) := by omega
      have i2 : (k : Int) < (n : Int) := by omega
      have Oc0_2 := (unhide O).cell 0 rfl; have Oc1_2 := (unhide O).cell 1 rfl; have Vc0_3 := (unhide V).cell 0 rfl; have Vc1_3 := (unhide V).cell 1 rfl; have Vc2_3 := (unhide V).cell 2 rfl; have Vc3_3 := (unhide V).cell 3 rfl; have Vc4_3 := (unhide V).cell 4 rfl; have Vc5_3 := (unhide V).cell 5 rfl; have Vc6_3 := (unhide V).cell 6 rfl
      go_wp2
      clear Oc0_2 Oc1_2 Vc0_3 Vc1_3 Vc2_3 Vc3_3 Vc4_3 Vc5_3 Vc6_3
      cases hd : (x.b.name.toList == b.name.toList) with
      | false =>
        refine wp_region_held_drew (S := fun w' => w'.cell? ⟨wp4.heap.size, 0, none⟩ = some (.slice (some ⟨g1, 0, none⟩) n c1) ∧ w'.cell? ⟨wp1.heap.size, 0, none⟩ = some (.string b.name) ∧ w'.cell? ⟨g1, k * 7, none⟩ = some (.string x.b.name)) (by kernel_rfl) (⟨(unhide O).cell 0 rfl, (unhide V).cell 0 rfl, (br_cells (unhide ORW) (unhide X1) hlt).1⟩) (fun hHeld => ?_)
        replace ORW : Hid (wo.drew.ownsRow w.heap.size 39 7 (.slice (some ⟨g1, 0, none⟩) n c1) n (rowC lbC L)) := unhide ORW
        replace V := hide ((unhide V).drew); replace R := hide ((unhide R).drew); replace O := hide ((unhide O).drew); replace OB := hide ((unhide OB).drew); replace EB := hide ((unhide EB).drew); replace BB := hide ((unhide BB).drew)
        have sz101 : Hid (wo.heap.size ≤ wo.drew.heap.size) := Nat.le_refl _
        refine takeVal 0 (some 16) ?_ rfl (by kernel_rfl) (by kernel_rfl) (by kernel_rfl) rfl (fun _ _ _ h => h) (by rfl) (by assumption) ?_ ?_; rotate_left; (intro w hSw; (try dsimp only at hSw); go_simp <;> with_reducible rfl); simp only [Act.put, List.setIfInBounds_toArray, List.set_cons_zero, List.set_cons_succ]
        refine takeVal 1 (some 17) ?_ rfl (by kernel_rfl) (by kernel_rfl) (by kernel_rfl) rfl (fun _ _ _ h => h) (by rfl) (by assumption) ?_ ?_; rotate_left; (intro w hSw; (try dsimp only at hSw); go_simp <;> with_reducible rfl); simp only [Act.put, List.setIfInBounds_toArray, List.set_cons_zero, List.set_cons_succ]
        refine takeVal 2 (some 18) ?_ rfl (by kernel_rfl) (by kernel_rfl) (by kernel_rfl) rfl (fun _ _ _ h => h) (by rfl) (by assumption) ?_ ?_; rotate_left; (intro w hSw; (try dsimp only at hSw); go_simp <;> with_reducible rfl); simp only [Act.put, List.setIfInBounds_toArray, List.set_cons_zero, List.set_cons_succ]
        refine takeVal 3 (some 19) ?_ rfl (by kernel_rfl) (by kernel_rfl) (by kernel_rfl) rfl (fun _ _ _ h => h) (by rfl) (by assumption) ?_ ?_; rotate_left; (intro w hSw; (try dsimp only at hSw); go_simp <;> with_reducible rfl); simp only [Act.put, List.setIfInBounds_toArray, List.set_cons_zero, List.set_cons_succ]
        refine takeVal 4 (some 20) ?_ rfl (by kernel_rfl) (by kernel_rfl) (by kernel_rfl) rfl (fun _ _ _ h => h) (by rfl) (by assumption) ?_ ?_; rotate_left; (intro w hSw; (try dsimp only at hSw); go_simp <;> with_reducible rfl); simp only [Act.put, List.setIfInBounds_toArray, List.set_cons_zero, List.set_cons_succ]
        refine takeVal 5 (some 21) ?_ rfl (by kernel_rfl) (by kernel_rfl) (by kernel_rfl) rfl (fun _ _ _ h => h) (by rfl) (by assumption) ?_ ?_; rotate_left; (intro w hSw; (try dsimp only at hSw); go_simp <;> with_reducible rfl); simp only [Act.put, List.setIfInBounds_toArray, List.set_cons_zero, List.set_cons_succ]
        refine takeVal 6 (some 22) ?_ rfl (by kernel_rfl) (by kernel_rfl) (by kernel_rfl) rfl (fun _ _ _ h => h) (by rfl) (by assumption) ?_ ?_; rotate_left; (intro w hSw; (try dsimp only at hSw); go_simp <;> with_reducible rfl); simp only [Act.put, List.setIfInBounds_toArray, List.set_cons_zero, List.set_cons_succ]
        refine takeVal 7 (some 23) ?_ rfl (by kernel_rfl) (by kernel_rfl) (by kernel_rfl) rfl (fun _ _ _ h => h) (by rfl) (by assumption) ?_ ?_; rotate_left; (intro w hSw; (try dsimp only at hSw); go_simp <;> with_reducible rfl); simp only [Act.put, List.setIfInBounds_toArray, List.set_cons_zero, List.set_cons_succ]
        refine takeVal 8 (some 24) ?_ rfl (by kernel_rfl) (by kernel_rfl) (by kernel_rfl) rfl (fun _ _ _ h => h) (by rfl) (by assumption) ?_ ?_; rotate_left; (intro w hSw; (try dsimp only at hSw); go_simp <;> with_reducible rfl); simp only [Act.put, List.setIfInBounds_toArray, List.set_cons_zero, List.set_cons_succ]
        refine wpAnyH_done (by kernel_rfl) ?_ _
        have NX := hide (none_more (unhide XB) hd (unhide HNO))
        go_wp2
        go_roundw
        case rel => exact ⟨k + 1, by omega, by go_num, unhide NX, unhide V, unhide R, unhide O, unhide ORW, unhide EB, unhide OB, unhide BB⟩
        case measure => simp [intOf]; omega
      | true =>
        refine wp_region_held_drew (S := fun w' => w'.cell? ⟨wp4.heap.size, 0, none⟩ = some (.slice (some ⟨g1, 0, none⟩) n c1) ∧ w'.cell? ⟨wp1.heap.size, 0, none⟩ = some (.string b.name) ∧ w'.cell? ⟨g1, k * 7, none⟩ = some (.string x.b.name)) (by kernel_rfl) (⟨(unhide O).cell 0 rfl, (unhide V).cell 0 rfl, (br_cells (unhide ORW) (unhide X1) hlt).1⟩) (fun hHeld => ?_)
        replace ORW : Hid (wo.drew.ownsRow w.heap.size 39 7 (.slice (some ⟨g1, 0, none⟩) n c1) n (rowC lbC L)) := unhide ORW
        replace V := hide ((unhide V).drew); replace R := hide ((unhide R).drew); replace O := hide ((unhide O).drew); replace OB := hide ((unhide OB).drew); replace EB := hide ((unhide EB).drew); replace BB := hide ((unhide BB).drew)
        have sz101 : Hid (wo.heap.size ≤ wo.drew.heap.size) := Nat.le_refl _
        refine takeVal 0 (some 16) ?_ rfl (by kernel_rfl) (by kernel_rfl) (by kernel_rfl) rfl (fun _ _ _ h => h) (by rfl) (by assumption) ?_ ?_; rotate_left; (intro w hSw; (try dsimp only at hSw); go_simp <;> with_reducible rfl); simp only [Act.put, List.setIfInBounds_toArray, List.set_cons_zero, List.set_cons_succ]
        refine takeVal 1 (some 17) ?_ rfl (by kernel_rfl) (by kernel_rfl) (by kernel_rfl) rfl (fun _ _ _ h => h) (by rfl) (by assumption) ?_ ?_; rotate_left; (intro w hSw; (try dsimp only at hSw); go_simp <;> with_reducible rfl); simp only [Act.put, List.setIfInBounds_toArray, List.set_cons_zero, List.set_cons_succ]
        refine takeVal 2 (some 18) ?_ rfl (by kernel_rfl) (by kernel_rfl) (by kernel_rfl) rfl (fun _ _ _ h => h) (by rfl) (by assumption) ?_ ?_; rotate_left; (intro w hSw; (try dsimp only at hSw); go_simp <;> with_reducible rfl); simp only [Act.put, List.setIfInBounds_toArray, List.set_cons_zero, List.set_cons_succ]
        refine takeVal 3 (some 19) ?_ rfl (by kernel_rfl) (by kernel_rfl) (by kernel_rfl) rfl (fun _ _ _ h => h) (by rfl) (by assumption) ?_ ?_; rotate_left; (intro w hSw; (try dsimp only at hSw); go_simp <;> with_reducible rfl); simp only [Act.put, List.setIfInBounds_toArray, List.set_cons_zero, List.set_cons_succ]
        refine takeVal 4 (some 20) ?_ rfl (by kernel_rfl) (by kernel_rfl) (by kernel_rfl) rfl (fun _ _ _ h => h) (by rfl) (by assumption) ?_ ?_; rotate_left; (intro w hSw; (try dsimp only at hSw); go_simp <;> with_reducible rfl); simp only [Act.put, List.setIfInBounds_toArray, List.set_cons_zero, List.set_cons_succ]
        refine takeVal 5 (some 21) ?_ rfl (by kernel_rfl) (by kernel_rfl) (by kernel_rfl) rfl (fun _ _ _ h => h) (by rfl) (by assumption) ?_ ?_; rotate_left; (intro w hSw; (try dsimp only at hSw); go_simp <;> with_reducible rfl); simp only [Act.put, List.setIfInBounds_toArray, List.set_cons_zero, List.set_cons_succ]
        refine takeVal 6 (some 22) ?_ rfl (by kernel_rfl) (by kernel_rfl) (by kernel_rfl) rfl (fun _ _ _ h => h) (by rfl) (by assumption) ?_ ?_; rotate_left; (intro w hSw; (try dsimp only at hSw); go_simp <;> with_reducible rfl); simp only [Act.put, List.setIfInBounds_toArray, List.set_cons_zero, List.set_cons_succ]
        refine takeVal 7 (some 23) ?_ rfl (by kernel_rfl) (by kernel_rfl) (by kernel_rfl) rfl (fun _ _ _ h => h) (by rfl) (by assumption) ?_ ?_; rotate_left; (intro w hSw; (try dsimp only at hSw); go_simp <;> with_reducible rfl); simp only [Act.put, List.setIfInBounds_toArray, List.set_cons_zero, List.set_cons_succ]
        refine takeVal 8 (some 24) ?_ rfl (by kernel_rfl) (by kernel_rfl) (by kernel_rfl) rfl (fun _ _ _ h => h) (by rfl) (by assumption) ?_ ?_; rotate_left; (intro w hSw; (try dsimp only at hSw); go_simp <;> with_reducible rfl); simp only [Act.put, List.setIfInBounds_toArray, List.set_cons_zero, List.set_cons_succ]
        refine wpAnyH_done (by kernel_rfl) ?_ _
        have ANS : Hid (putX b s.boxes = s.boxes.set k b) := putX_at (unhide XB) hd (unhide HNO)
        clear hd; have Oc0_4 := (unhide O).cell 0 rfl; have Oc1_4 := (unhide O).cell 1 rfl; have Vc0_5 := (unhide V).cell 0 rfl; have Vc1_5 := (unhide V).cell 1 rfl; have Vc2_5 := (unhide V).cell 2 rfl; have Vc3_5 := (unhide V).cell 3 rfl; have Vc4_5 := (unhide V).cell 4 rfl; have Vc5_5 := (unhide V).cell 5 rfl; have Vc6_5 := (unhide V).cell 6 rfl
        go_wp2
        clear Oc0_4 Oc1_4 Vc0_5 Vc1_5 Vc2_5 Vc3_5 Vc4_5 Vc5_5 Vc6_5
        refine lateBegin (S := fun w' => w'.cell? ⟨wp4.heap.size, 0, none⟩ = some (.slice (some ⟨g1, 0, none⟩) n c1) ∧ w'.cell? ⟨wp1.heap.size, 0, none⟩ = some (.string b.name) ∧ w'.cell? ⟨wp1.heap.size, 1, none⟩ = some (.int .i64 b.valid) ∧ w'.cell? ⟨wp1.heap.size, 2, none⟩ = some (.int .i64 b.next) ∧ w'.cell? ⟨wp1.heap.size, 3, none⟩ = some (.int .i64 b.mod) ∧ w'.cell? ⟨wp1.heap.size, 4, none⟩ = some (.slice am b.mails.length cm) ∧ w'.cell? ⟨wp1.heap.size, 5, none⟩ = some (.slice at1 b.tombs.length ct1) ∧ w'.cell? ⟨wp1.heap.size, 6, none⟩ = some (.int .i64 b.hor)) 6 (by kernel_rfl) (⟨(unhide O).cell 0 rfl, (unhide V).cell 0 rfl, (unhide V).cell 1 rfl, (unhide V).cell 2 rfl, (unhide V).cell 3 rfl, (unhide V).cell 4 rfl, (unhide V).cell 5 rfl, (unhide V).cell 6 rfl⟩) (fun hHeld => ?_)
        replace ORW : Hid (wo.drew.drew.ownsRow w.heap.size 39 7 (.slice (some ⟨g1, 0, none⟩) n c1) n (rowC lbC L)) := unhide ORW
        replace V := hide ((unhide V).drew); replace R := hide ((unhide R).drew); replace O := hide ((unhide O).drew); replace OB := hide ((unhide OB).drew); replace EB := hide ((unhide EB).drew); replace BB := hide ((unhide BB).drew)
        have sz102 : Hid (wo.drew.heap.size ≤ wo.drew.drew.heap.size) := Nat.le_refl _
        refine lateTake 0 (some 25) ?_ rfl (by kernel_rfl) (by kernel_rfl) (by kernel_rfl) (by kernel_rfl) rfl (fun _ _ _ h => h) (by rfl) (by assumption) ?_ ?_; rotate_left; (intro w hSw; (try dsimp only at hSw); go_simp <;> with_reducible rfl); simp only [Act.put, List.setIfInBounds_toArray, List.set_cons_zero, List.set_cons_succ]
        refine lateTake 1 (some 26) ?_ rfl (by kernel_rfl) (by kernel_rfl) (by kernel_rfl) (by kernel_rfl) rfl (fun _ _ _ h => h) (by rfl) (by assumption) ?_ ?_; rotate_left; (intro w hSw; (try dsimp only at hSw); go_simp <;> with_reducible rfl); simp only [Act.put, List.setIfInBounds_toArray, List.set_cons_zero, List.set_cons_succ]
        refine lateTake 2 (some 27) ?_ rfl (by kernel_rfl) (by kernel_rfl) (by kernel_rfl) (by kernel_rfl) rfl (fun _ _ _ h => h) (by rfl) (by assumption) ?_ ?_; rotate_left; (intro w hSw; (try dsimp only at hSw); go_simp <;> with_reducible rfl); simp only [Act.put, List.setIfInBounds_toArray, List.set_cons_zero, List.set_cons_succ]
        refine lateTake 3 (some 28) ?_ rfl (by kernel_rfl) (by kernel_rfl) (by kernel_rfl) (by kernel_rfl) rfl (fun _ _ _ h => h) (by rfl) (by assumption) ?_ ?_; rotate_left; (intro w hSw; (try dsimp only at hSw); go_simp <;> with_reducible rfl); simp only [Act.put, List.setIfInBounds_toArray, List.set_cons_zero, List.set_cons_succ]
        refine lateStep 4 (by kernel_rfl) rfl (by rfl) (fun K hK => ?_)
        have LO2 : w.heap.size ≤ wo.drew.drew.heap.size := (unhide BB).size
        go_simp
        refine (l08Copy_any b _ _ B2 _ (Nat.le_trans (unhide FB).mails (by decide)) (Nat.le_trans (unhide FB).tombs (by decide)) (unhide OB)).mono ?_
        rintro e wpy1 ⟨mC, tC, rfl, oC, hb⟩
        obtain ⟨amC, cmC, rfl⟩ := g_shape oC.1
        obtain ⟨atC, ctC, rfl⟩ := g_shape oC.2
        have OC_ := hide (oC.based LO2); clear oC
        replace ORW : Hid (wpy1.ownsRow w.heap.size 39 7 (.slice (some ⟨g1, 0, none⟩) n c1) n (rowC lbC L)) := g_stays (unhide ORW) hb
        replace V := hide ((unhide V).ups hb); replace R := hide ((unhide R).ups hb); replace O := hide ((unhide O).ups hb); replace OB := hide ((unhide OB).up hb); replace EB := hide ((unhide EB).up hb); have sz103 := hide (hb.size); replace BB := hide (below_y (unhide BB) hb); clear hb; have OC := OC_; clear OC_; go_wp2_with fail
        refine hK.out _ _ (⟨(unhide O).cell 0 rfl, (unhide V).cell 0 rfl, (unhide V).cell 1 rfl, (unhide V).cell 2 rfl, (unhide V).cell 3 rfl, (unhide V).cell 4 rfl, (unhide V).cell 5 rfl, (unhide V).cell 6 rfl⟩) (fun hHeld2 => ?_)
        clear hK K hHeld; have hHeld := hHeld2; clear hHeld2
        try simp only [Act.put, List.setIfInBounds_toArray, List.set_cons_zero, List.set_cons_succ]
        refine lateTake 5 (some 30) ?_ rfl (by kernel_rfl) (by kernel_rfl) (by kernel_rfl) (by kernel_rfl) rfl (fun _ _ _ h => h) (by rfl) (by assumption) ?_ ?_; rotate_left; (intro w hSw; (try dsimp only at hSw); go_simp <;> with_reducible rfl); simp only [Act.put, List.setIfInBounds_toArray, List.set_cons_zero, List.set_cons_succ]
        obtain ⟨d0, d1, d2, d3, d4, d5, d6⟩ := br_cells (unhide ORW) (unhide X1) hlt
        have f0 := World.ownsRow.frozenAt (unhide ORW) (k * 7); have f1 := World.ownsRow.frozenAt (unhide ORW) (k * 7 + 1); have f2 := World.ownsRow.frozenAt (unhide ORW) (k * 7 + 2); have f3 := World.ownsRow.frozenAt (unhide ORW) (k * 7 + 3); have f4 := World.ownsRow.frozenAt (unhide ORW) (k * 7 + 4); have f5 := World.ownsRow.frozenAt (unhide ORW) (k * 7 + 5); have f6 := World.ownsRow.frozenAt (unhide ORW) (k * 7 + 6)
        have ST := hide (br_store (unhide ORW) (unhide X1) (⟨b, .slice amC b.mails.length cmC, .slice atC b.tombs.length ctC⟩ : Lb))
        refine lateLast 6 (by decide) (by kernel_rfl) rfl (by rfl) (fun K hK => ?_)
        go_simp
        refine hK.out _ _ ?_
        clear hK K hHeld
        try simp only [Act.put, List.setIfInBounds_toArray, List.set_cons_zero, List.set_cons_succ]
        obtain ⟨wpy2, hU⟩ : ∃ X, X = (((((((wpy1.setCell ⟨g1, k * 7, none⟩ (.string b.name)).setCell ⟨g1, k * 7 + 1, none⟩ (.int .i64 b.valid)).setCell ⟨g1, k * 7 + 2, none⟩ (.int .i64 b.next)).setCell ⟨g1, k * 7 + 3, none⟩ (.int .i64 b.mod)).setCell ⟨g1, k * 7 + 4, none⟩ (.slice amC b.mails.length cmC)).setCell ⟨g1, k * 7 + 5, none⟩ (.slice atC b.tombs.length ctC)).setCell ⟨g1, k * 7 + 6, none⟩ (.int .i64 b.hor)) := ⟨_, rfl⟩
        have ST2 := unhide ST
        simp only at ST2
        rw [← hU] at ST2 ⊢
        obtain ⟨st1, hg⟩ := ST2
        clear ST hU d0 d1 d2 d3 d4 d5 d6 f0 f1 f2 f3 f4 f5 f6
        have R_ := hide ((unhide R).kept hg (fun e => (unhide R).not_row (by decide) (unhide ORW) e.symm))
        have O_ := hide ((unhide O).kept hg (fun e => (unhide O).not_row (by decide) (unhide ORW) e.symm))
        have EB_ : Hid (EachB w.heap.size wpy2 L) := (unhide EB).aside (unhide ORW) hg (by decide) (by decide)
        have OC_ : Hid (OwnBx w.heap.size wpy2 (.slice amC b.mails.length cmC) (.slice atC b.tombs.length ctC) b) := ⟨g_aside (unhide OC).1 hg (fun q hq => rows_apart (unhide ORW) (unhide OC).1 (by decide) q hq), g_aside (unhide OC).2 hg (fun q hq => rows_apart (unhide ORW) (unhide OC).2 (by decide) q hq)⟩
        have BB_ : Hid (Below w.heap.size w wpy2) := (unhide BB).grown hg (unhide BB).size (fun q hq => (World.ownsRow.lt (unhide ORW) q hq).1)
        have OZ := hide st1; clear st1 hg ORW EB OC R O BB V OB; have R := R_; have O := O_; have EB := EB_; have OC := OC_; have BB := BB_; clear R_ O_ EB_ OC_ BB_
        refine lateDone (by kernel_rfl) ?_ _
        have Oc0_6 := (unhide O).cell 0 rfl; have Oc1_6 := (unhide O).cell 1 rfl; have Rf0 := (unhide R).frozen 0; have Rf1 := (unhide R).frozen 1; have Re0 := (unhide R).cell 0 rfl; have Re1 := (unhide R).cell 1 rfl
        have F := hide (fill2 (unhide R) (.slice (some ⟨g1, 0, none⟩) n c1) (.int .i64 s.valid))
        obtain ⟨U, hU⟩ : ∃ U, U = ((wpy2.setCell ⟨wp2.heap.size, 0, none⟩ (.slice (some ⟨g1, 0, none⟩) n c1)).setCell ⟨wp2.heap.size, 1, none⟩ (.int .i64 s.valid)) := ⟨_, rfl⟩
        have F9 := unhide F
        rw [← hU] at F9
        have EU := hU.symm; clear F hU; have v0 := F9.obj.cell 0 rfl; have v1 := F9.obj.cell 1 rfl; have F := hide F9; clear F9
        go_wp2_with (refine bodyPost_ret (by simp [results, Try.results10, go_sem, v0, v1]; try rfl) rfl ?_)
        clear EU; have F := unhide F
        rw [unhide ANS]
        refine ⟨_, rfl, ⟨L.set k (⟨b, .slice amC b.mails.length cmC, .slice atC b.tombs.length ctC⟩ : Lb), ?_, ⟨?_, fun z hz => ?_⟩⟩, F.below loR (unhide BB)⟩
        · rw [List.map_set, unhide HL]
        · unfold OwnBr; rw [List.length_set, unhide HN1]; exact F.row (by decide) (unhide OZ)
        · rcases List.mem_or_eq_of_mem_set hz with h1 | h1
          · exact ⟨F.row (by decide) ((unhide EB) z h1).1, F.row (by decide) ((unhide EB) z h1).2⟩
          · subst h1; exact ⟨F.row (by decide) (unhide OC).1, F.row (by decide) (unhide OC).2⟩
    · obtain rfl : k = n := by omega
      have R := hide oR; have O := hide oO; have ORW := hide orow; have EB := hide oe; have BB := hide hbel; clear oV oR oO orow oe obx hbel hlt hk
      have ANS : Hid (putX b s.boxes = s.boxes) := putX_no (by have h9 := unhide HNO; rw [List.take_of_length_le (by have := unhide HN; omega)] at h9; exact h9)
      have Oc0_2 := (unhide O).cell 0 rfl; have Oc1_2 := (unhide O).cell 1 rfl; have Rf0 := (unhide R).frozen 0; have Rf1 := (unhide R).frozen 1; have Re0 := (unhide R).cell 0 rfl; have Re1 := (unhide R).cell 1 rfl; have F := hide (fill2 (unhide R) (.slice a1 k c1) (.int .i64 s.valid))
      obtain ⟨U, hU⟩ : ∃ U, U = ((wo.setCell ⟨wp2.heap.size, 0, none⟩ (.slice a1 k c1)).setCell ⟨wp2.heap.size, 1, none⟩ (.int .i64 s.valid)) := ⟨_, rfl⟩
      have F9 := unhide F
      rw [← hU] at F9
      have EU := hU.symm; clear F hU; have v0 := F9.obj.cell 0 rfl; have v1 := F9.obj.cell 1 rfl; have F := hide F9; clear F9
      go_wp2_with (refine bodyPost_ret (by simp [results, Try.results10, go_sem, v0, v1]; try rfl) rfl ?_)
      clear EU; have F := unhide F
      rw [unhide ANS]
      refine ⟨_, rfl, ⟨L, unhide HL, ⟨?_, fun z hz => ⟨F.row (by decide) ((unhide EB) z hz).1, F.row (by decide) ((unhide EB) z hz).2⟩⟩⟩, F.below loR (unhide BB)⟩
      unfold OwnBr; rw [unhide HN1]; exact F.row (by decide) (unhide ORW)
end Go.Proofs.Ytfemplekibpfoac

/- The specification's CopyMails. Made by gen_stores.py. -/
namespace Go.Proofs.Ytfemplekibpfoac
open Go.RowKit
open Plain
set_option linter.unusedVariables false
set_option linter.unusedSimpArgs false

theorem mail_cellsN {B g c n : Nat} {w : World} {l : List Ml} {k : Nat} {x : Ml} (hv : OwnMl B w (.slice (some ⟨g, 0, none⟩) n c) l) (hx : l[k]? = some x) : w.cell? ⟨g, k * 4, none⟩ = some (.int .i64 x.uid) ∧ w.cell? ⟨g, k * 4 + 1, none⟩ = some (.int .i64 x.flags) ∧ w.cell? ⟨g, k * 4 + 2, none⟩ = some (.int .i64 x.mod) ∧ w.cell? ⟨g, k * 4 + 3, none⟩ = some (.string x.text) := by
  obtain ⟨g', c', e, hg, c0, c1, c2, c3⟩ := ml_read hv (Below.refl _ _) hx
  have e1 := Option.some.inj (Value.slice.inj e).1
  have e2 : g = g' := by injection e1
  subst e2
  exact ⟨c0, c1, c2, c3⟩
namespace Plain
theorem atV_true {s : Sx} {n : ByteArray} {z : Bx} (h : (z, true) = atV s n) : boxAt s n = some z := by
  cases hb : boxAt s n with
  | none => rw [atV_none hb] at h; cases h
  | some b => rw [atV_some hb] at h; cases h; rfl
theorem atV_false {s : Sx} {n : ByteArray} {z : Bx} (h : (z, false) = atV s n) : boxAt s n = none := by
  cases hb : boxAt s n with
  | none => rfl
  | some b => rw [atV_some hb] at h; cases h
end Plain
theorem fillS_grown {W : World} {g : Nat} {u0 u1 u2 u3 u4 u5 u6 : Value} : W.grownBy (((((((W.setCell ⟨g, 0, none⟩ u0).setCell ⟨g, 1, none⟩ u1).setCell ⟨g, 2, none⟩ u2).setCell ⟨g, 3, none⟩ u3).setCell ⟨g, 4, none⟩ u4).setCell ⟨g, 5, none⟩ u5).setCell ⟨g, 6, none⟩ u6) (some g) := g_store (g_store (g_store (g_store (g_store (g_store (g_store (g_self _ _) _) _) _) _) _) _) _
theorem setOkS_held (l : List Rg) (v : Value) (B : Nat) (w : World) (hs : l.length ≤ 1048576) (h : OwnR B w v l) : Calls Try.prog 63 #[v] w fun e w' => e = .returned (.bool (okS l)) ∧ Below w.heap.size w w' :=
  (spec_SetOk_any l v w hs h.read).mono fun e w' ⟨h, q, hq⟩ => ⟨h, by rw [hq]; exact ⟨rfl, rfl, rfl, Nat.le_refl _, fun _ _ => rfl⟩⟩
theorem setHasS_held (l : List Rg) (n : Int) (v : Value) (B : Nat) (w : World) (hs : l.length ≤ 1048576) (h : OwnR B w v l) : Calls Try.prog 64 #[v, .int .i64 n] w fun e w' => e = .returned (.bool (hasB l n)) ∧ Below w.heap.size w w' :=
  (spec_SetHas_any l n v w hs h.read).mono fun e w' ⟨h, hw⟩ => ⟨h, by rw [hw]; exact Below.refl _ _⟩
set_option maxHeartbeats 16000000 in
set_option maxRecDepth 100000 in
theorem spec_CopyMails_any (s : Sx) (src dst : ByteArray) (set : List Rg) (v vs : Value) (B B2 : Nat) (w : World) (hf : FitSt s) (hs : set.length ≤ 1048576) (h : ReadSt B w v s.boxes) (h2 : OwnR B2 w vs set) :
    Calls Try.prog 24 #[.agg #[v, .int .i64 s.valid], .string src, vs, .string dst] w fun e w' => ∃ v', e = .returned (.tuple #[.agg #[v', .int .i64 (copyV s src set dst).1.valid], .int .i64 (copyV s src set dst).2]) ∧ ReadSt w.heap.size w' v' (copyV s src set dst).1.boxes ∧ Below w.heap.size w w' := by
  have FT := hide hf
  obtain ⟨L, hL, h⟩ := h
  obtain ⟨a1, c1, rfl⟩ := g_shape h.row
  obtain ⟨n, hn⟩ : ∃ n, n = s.boxes.length := ⟨_, rfl⟩
  have hn1 : L.length = n := by rw [hn, ← hL, List.length_map]
  have hnl := hf.len
  rw [← hn] at hnl
  have S1 := hide h
  rw [hn1] at S1 ⊢
  have FE := hide hf.each; have HL := hide hL; have HN := hide hn; have HN1 := hide hn1; clear h hL hn hn1 hf; have RS := hide h2; clear h2; have BB := hide (Below.refl w.heap.size w)
  obtain ⟨ws1, hA⟩ : ∃ X, X = w.alloc (.cells ([.slice a1 n c1, .int .i64 s.valid] : List Value).toArray 33) := ⟨_, rfl⟩
  have Ax : HasObj ws1 w.heap.size 33 [.slice a1 n c1, .int .i64 s.valid] := by rw [hA]; exact HasObj.new _ _ _
  have hbn : Below w.heap.size w ws1 := by rw [hA]; exact (Below.refl _ _).alloc (Nat.le_refl _) _
  have loA : w.heap.size ≤ w.heap.size := (unhide BB).size
  have EA := hA.symm; clear hA; replace S1 := hide ((unhide S1).up hbn); replace RS := hide ((unhide RS).up hbn); have sz1 := hide (hbn.size); replace BB := hide (below_y (unhide BB) hbn); clear hbn; have A := hide Ax; clear Ax
  obtain ⟨ws2, hR⟩ : ∃ X, X = ws1.alloc (.cells ([.slice none 0 0, .int .i64 0] : List Value).toArray 33) := ⟨_, rfl⟩
  have Rx : HasObj ws2 ws1.heap.size 33 [.slice none 0 0, .int .i64 0] := by rw [hR]; exact HasObj.new _ _ _
  have hbn : Below ws1.heap.size ws1 ws2 := by rw [hR]; exact (Below.refl _ _).alloc (Nat.le_refl _) _
  have neAR : w.heap.size ≠ ws1.heap.size := Nat.ne_of_lt (unhide A).lt
  have loR : w.heap.size ≤ ws1.heap.size := (unhide BB).size
  have ER := hR.symm; clear hR; replace A := hide ((unhide A).ups hbn); replace S1 := hide ((unhide S1).up hbn); replace RS := hide ((unhide RS).up hbn); have sz2 := hide (hbn.size); replace BB := hide (below_y (unhide BB) hbn); clear hbn; have R := hide Rx; clear Rx; have Ac0_1 := (unhide A).cell 0 rfl; have Ac1_1 := (unhide A).cell 1 rfl
  go_enter Try.func24, Try.ntmps24
  go_wp2_with fail; clear Ac0_1 Ac1_1 EA ER
  have LO : Hid (w.heap.size ≤ ws2.heap.size) := (unhide BB).size
  refine (l09Copy_any s _ _ _ (unhide FT) ⟨L, unhide HL, unhide S1⟩).mono ?_
  rintro e ws3 ⟨v9, rfl, oS, hb⟩
  obtain ⟨KL, hK, oK⟩ := oS
  obtain ⟨ak, ck, rfl⟩ := g_shape oK.row
  have hnK : KL.length = n := by rw [unhide HN, ← hK, List.length_map]
  have SK_ := hide (oK.based (unhide LO))
  rw [hnK] at SK_ ⊢
  have HK := hide hK; clear oK hK hnK; replace A := hide ((unhide A).ups hb); replace R := hide ((unhide R).ups hb); replace S1 := hide ((unhide S1).up hb); replace RS := hide ((unhide RS).up hb); have sz3 := hide (hb.size); replace BB := hide (below_y (unhide BB) hb); clear hb; have SK := SK_; clear SK_
  obtain ⟨ws4, hS⟩ : ∃ X, X = ws3.alloc (.cells ([.slice ak n ck, .int .i64 s.valid] : List Value).toArray 33) := ⟨_, rfl⟩
  have Sx : HasObj ws4 ws3.heap.size 33 [.slice ak n ck, .int .i64 s.valid] := by rw [hS]; exact HasObj.new _ _ _
  have hbn : Below ws3.heap.size ws3 ws4 := by rw [hS]; exact (Below.refl _ _).alloc (Nat.le_refl _) _
  have neAS : w.heap.size ≠ ws3.heap.size := Nat.ne_of_lt (unhide A).lt
  have neRS : ws1.heap.size ≠ ws3.heap.size := Nat.ne_of_lt (unhide R).lt
  have loS : w.heap.size ≤ ws3.heap.size := (unhide BB).size
  have ES := hS.symm; clear hS; replace A := hide ((unhide A).ups hbn); replace R := hide ((unhide R).ups hbn); replace S1 := hide ((unhide S1).up hbn); replace RS := hide ((unhide RS).up hbn); replace SK := hide ((unhide SK).up hbn); have sz4 := hide (hbn.size); replace BB := hide (below_y (unhide BB) hbn); clear hbn; have S := hide Sx; clear Sx; have Ac0_2 := (unhide A).cell 0 rfl; have Ac1_2 := (unhide A).cell 1 rfl; go_wp2_with fail; clear Ac0_2 Ac1_2 ES
  refine (spec_StoreOk_any s _ _ _ (unhide FT) ⟨L, unhide HL, unhide S1⟩).mono ?_
  rintro e ws5 ⟨rfl, hb⟩
  replace A := hide ((unhide A).ups hb); replace R := hide ((unhide R).ups hb); replace S := hide ((unhide S).ups hb); replace S1 := hide ((unhide S1).up hb); replace RS := hide ((unhide RS).up hb); replace SK := hide ((unhide SK).up hb); have sz5 := hide (hb.size); replace BB := hide (below_y (unhide BB) hb); clear hb
  cases h1 : storeOk s with
  | false =>
    have ANS : Hid (copyV s src set dst = (s, 4)) := copyV_bad1 h1
    have Sc0_3 := (unhide S).cell 0 rfl; have Sc1_3 := (unhide S).cell 1 rfl; have Rf0 := (unhide R).frozen 0; have Rf1 := (unhide R).frozen 1; have Re0 := (unhide R).cell 0 rfl; have Re1 := (unhide R).cell 1 rfl; have F := hide (fill2 (unhide R) (.slice ak n ck) (.int .i64 s.valid))
    obtain ⟨U, hU⟩ : ∃ U, U = ((ws5.setCell ⟨ws1.heap.size, 0, none⟩ (.slice ak n ck)).setCell ⟨ws1.heap.size, 1, none⟩ (.int .i64 s.valid)) := ⟨_, rfl⟩
    have F9 := unhide F
    rw [← hU] at F9
    have EU := hU.symm; clear F hU; have v0 := F9.obj.cell 0 rfl; have v1 := F9.obj.cell 1 rfl; have F := hide F9; clear F9
    go_wp2_with (refine bodyPost_ret (by simp [results, Try.results24, go_sem, v0, v1]; try rfl) rfl ?_)
    clear EU; have F := unhide F
    rw [unhide ANS]
    exact ⟨_, rfl, ⟨KL, unhide HK, ⟨F.row (by decide) (unhide SK).row, fun x hx => ⟨F.row (by decide) ((unhide SK).each x hx).1, F.row (by decide) ((unhide SK).each x hx).2⟩⟩⟩, F.below loR (unhide BB)⟩
  | true =>
    go_wp2_with fail
    refine (setOkS_held set vs _ _ hs (unhide RS)).mono ?_
    rintro e ws6 ⟨rfl, hb⟩
    replace A := hide ((unhide A).ups hb); replace R := hide ((unhide R).ups hb); replace S := hide ((unhide S).ups hb); replace S1 := hide ((unhide S1).up hb); replace RS := hide ((unhide RS).up hb); replace SK := hide ((unhide SK).up hb); have sz6 := hide (hb.size); replace BB := hide (below_y (unhide BB) hb); clear hb
    cases h2 : okS set with
    | false =>
      have ANS : Hid (copyV s src set dst = (s, 4)) := copyV_bad2 h2
      have Sc0_3 := (unhide S).cell 0 rfl; have Sc1_3 := (unhide S).cell 1 rfl; have Rf0 := (unhide R).frozen 0; have Rf1 := (unhide R).frozen 1; have Re0 := (unhide R).cell 0 rfl; have Re1 := (unhide R).cell 1 rfl; have F := hide (fill2 (unhide R) (.slice ak n ck) (.int .i64 s.valid))
      obtain ⟨U, hU⟩ : ∃ U, U = ((ws6.setCell ⟨ws1.heap.size, 0, none⟩ (.slice ak n ck)).setCell ⟨ws1.heap.size, 1, none⟩ (.int .i64 s.valid)) := ⟨_, rfl⟩
      have F9 := unhide F
      rw [← hU] at F9
      have EU := hU.symm; clear F hU; have v0 := F9.obj.cell 0 rfl; have v1 := F9.obj.cell 1 rfl; have F := hide F9; clear F9
      go_wp2_with (refine bodyPost_ret (by simp [results, Try.results24, go_sem, v0, v1]; try rfl) rfl ?_)
      clear EU; have F := unhide F
      rw [unhide ANS]
      exact ⟨_, rfl, ⟨KL, unhide HK, ⟨F.row (by decide) (unhide SK).row, fun x hx => ⟨F.row (by decide) ((unhide SK).each x hx).1, F.row (by decide) ((unhide SK).each x hx).2⟩⟩⟩, F.below loR (unhide BB)⟩
    | true =>
      have CV := hide (copyV_in (f := src) (n := dst) h1 h2); have RT := hide (right_st h1); clear h1 h2; have Ac0_3 := (unhide A).cell 0 rfl; have Ac1_3 := (unhide A).cell 1 rfl; go_wp2_with fail; clear Ac0_3 Ac1_3
      have LOX : Hid (w.heap.size ≤ ws6.heap.size) := (unhide BB).size
      refine (spec_BoxAt_any s src _ _ _ (unhide FT) ⟨L, unhide HL, unhide S1⟩).mono ?_
      rintro e ws7 ⟨mX, tX, rfl, oX, hb⟩
      obtain ⟨zX, okX, hzX⟩ : ∃ z ok, (z, ok) = atV s src := ⟨_, _, rfl⟩
      rw [← hzX] at oX ⊢
      simp only at oX ⊢
      have ATX := hide hzX
      obtain ⟨amX, cmX, rfl⟩ := g_shape oX.1
      obtain ⟨atX, ctX, rfl⟩ := g_shape oX.2
      have OX_ := hide (oX.based (unhide LOX)); clear oX hzX; replace A := hide ((unhide A).ups hb); replace R := hide ((unhide R).ups hb); replace S := hide ((unhide S).ups hb); replace S1 := hide ((unhide S1).up hb); replace RS := hide ((unhide RS).up hb); replace SK := hide ((unhide SK).up hb); have sz7 := hide (hb.size); replace BB := hide (below_y (unhide BB) hb); clear hb; have OX := OX_; clear OX_
      obtain ⟨ws8, hX⟩ : ∃ X, X = ws7.alloc (.cells ([.string zX.name, .int .i64 zX.valid, .int .i64 zX.next, .int .i64 zX.mod, .slice amX zX.mails.length cmX, .slice atX zX.tombs.length ctX, .int .i64 zX.hor] : List Value).toArray 39) := ⟨_, rfl⟩
      have Xx : HasObj ws8 ws7.heap.size 39 [.string zX.name, .int .i64 zX.valid, .int .i64 zX.next, .int .i64 zX.mod, .slice amX zX.mails.length cmX, .slice atX zX.tombs.length ctX, .int .i64 zX.hor] := by rw [hX]; exact HasObj.new _ _ _
      have hbn : Below ws7.heap.size ws7 ws8 := by rw [hX]; exact (Below.refl _ _).alloc (Nat.le_refl _) _
      have neAX : w.heap.size ≠ ws7.heap.size := Nat.ne_of_lt (unhide A).lt
      have neRX : ws1.heap.size ≠ ws7.heap.size := Nat.ne_of_lt (unhide R).lt
      have neSX : ws3.heap.size ≠ ws7.heap.size := Nat.ne_of_lt (unhide S).lt
      have loX : w.heap.size ≤ ws7.heap.size := (unhide BB).size
      have EX := hX.symm; clear hX; replace A := hide ((unhide A).ups hbn); replace R := hide ((unhide R).ups hbn); replace S := hide ((unhide S).ups hbn); replace S1 := hide ((unhide S1).up hbn); replace RS := hide ((unhide RS).up hbn); replace SK := hide ((unhide SK).up hbn); replace OX := hide ((unhide OX).up hbn); have sz8 := hide (hbn.size); replace BB := hide (below_y (unhide BB) hbn); clear hbn; have X := hide Xx; clear Xx; have Ac0_4 := (unhide A).cell 0 rfl; have Ac1_4 := (unhide A).cell 1 rfl; go_wp2_with fail; clear Ac0_4 Ac1_4 EX
      have LOY : Hid (w.heap.size ≤ ws8.heap.size) := (unhide BB).size
      refine (spec_BoxAt_any s dst _ _ _ (unhide FT) ⟨L, unhide HL, unhide S1⟩).mono ?_
      rintro e ws9 ⟨mY, tY, rfl, oY, hb⟩
      obtain ⟨zY, okY, hzY⟩ : ∃ z ok, (z, ok) = atV s dst := ⟨_, _, rfl⟩
      rw [← hzY] at oY ⊢
      simp only at oY ⊢
      have ATY := hide hzY
      obtain ⟨amY, cmY, rfl⟩ := g_shape oY.1
      obtain ⟨atY, ctY, rfl⟩ := g_shape oY.2
      have OY_ := hide (oY.based (unhide LOY)); clear oY hzY; replace A := hide ((unhide A).ups hb); replace R := hide ((unhide R).ups hb); replace S := hide ((unhide S).ups hb); replace X := hide ((unhide X).ups hb); replace S1 := hide ((unhide S1).up hb); replace RS := hide ((unhide RS).up hb); replace SK := hide ((unhide SK).up hb); replace OX := hide ((unhide OX).up hb); have sz9 := hide (hb.size); replace BB := hide (below_y (unhide BB) hb); clear hb; have OY := OY_; clear OY_
      have NS : Hid (∀ q, (BlkBs (.slice a1 n c1) L q ∨ BlkBs (.slice ak n ck) KL q) → q < ws9.heap.size) := fun q hq => hq.elim (fun h => ((unhide S1).base q h).2) (fun h => ((unhide SK).base q h).2)
      obtain ⟨ws10, hY⟩ : ∃ X, X = ws9.alloc (.cells ([.string zY.name, .int .i64 zY.valid, .int .i64 zY.next, .int .i64 zY.mod, .slice amY zY.mails.length cmY, .slice atY zY.tombs.length ctY, .int .i64 zY.hor] : List Value).toArray 39) := ⟨_, rfl⟩
      have Yx : HasObj ws10 ws9.heap.size 39 [.string zY.name, .int .i64 zY.valid, .int .i64 zY.next, .int .i64 zY.mod, .slice amY zY.mails.length cmY, .slice atY zY.tombs.length ctY, .int .i64 zY.hor] := by rw [hY]; exact HasObj.new _ _ _
      have hbn : Below ws9.heap.size ws9 ws10 := by rw [hY]; exact (Below.refl _ _).alloc (Nat.le_refl _) _
      have neAY : w.heap.size ≠ ws9.heap.size := Nat.ne_of_lt (unhide A).lt
      have neRY : ws1.heap.size ≠ ws9.heap.size := Nat.ne_of_lt (unhide R).lt
      have neSY : ws3.heap.size ≠ ws9.heap.size := Nat.ne_of_lt (unhide S).lt
      have neXY : ws7.heap.size ≠ ws9.heap.size := Nat.ne_of_lt (unhide X).lt
      have loY : w.heap.size ≤ ws9.heap.size := (unhide BB).size
      have EY := hY.symm; clear hY; replace A := hide ((unhide A).ups hbn); replace R := hide ((unhide R).ups hbn); replace S := hide ((unhide S).ups hbn); replace X := hide ((unhide X).ups hbn); replace S1 := hide ((unhide S1).up hbn); replace RS := hide ((unhide RS).up hbn); replace SK := hide ((unhide SK).up hbn); replace OX := hide ((unhide OX).up hbn); replace OY := hide ((unhide OY).up hbn); have sz10 := hide (hbn.size); replace BB := hide (below_y (unhide BB) hbn); clear hbn; have Y := hide Yx; clear Yx
      cases okX with
      | false =>
        have ANS : Hid (copyV s src set dst = (s, 1)) := by show _ = _; rw [unhide CV, atV_false (unhide ATX)]
        have Sc0_5 := (unhide S).cell 0 rfl; have Sc1_5 := (unhide S).cell 1 rfl; have Rf0 := (unhide R).frozen 0; have Rf1 := (unhide R).frozen 1; have Re0 := (unhide R).cell 0 rfl; have Re1 := (unhide R).cell 1 rfl; have F := hide (fill2 (unhide R) (.slice ak n ck) (.int .i64 s.valid))
        obtain ⟨U, hU⟩ : ∃ U, U = ((ws10.setCell ⟨ws1.heap.size, 0, none⟩ (.slice ak n ck)).setCell ⟨ws1.heap.size, 1, none⟩ (.int .i64 s.valid)) := ⟨_, rfl⟩
        have F9 := unhide F
        rw [← hU] at F9
        have EU := hU.symm; clear F hU; have v0 := F9.obj.cell 0 rfl; have v1 := F9.obj.cell 1 rfl; have F := hide F9; clear F9
        go_wp2_with (refine bodyPost_ret (by simp [results, Try.results24, go_sem, v0, v1]; try rfl) rfl ?_)
        clear EU; have F := unhide F
        rw [unhide ANS]
        exact ⟨_, rfl, ⟨KL, unhide HK, ⟨F.row (by decide) (unhide SK).row, fun x hx => ⟨F.row (by decide) ((unhide SK).each x hx).1, F.row (by decide) ((unhide SK).each x hx).2⟩⟩⟩, F.below loR (unhide BB)⟩
      | true =>
        cases okY with
        | false =>
          have ANS : Hid (copyV s src set dst = (s, 1)) := by show _ = _; rw [unhide CV, atV_false (unhide ATY)]; cases boxAt s src <;> rfl
          have Sc0_5 := (unhide S).cell 0 rfl; have Sc1_5 := (unhide S).cell 1 rfl; have Rf0 := (unhide R).frozen 0; have Rf1 := (unhide R).frozen 1; have Re0 := (unhide R).cell 0 rfl; have Re1 := (unhide R).cell 1 rfl; have F := hide (fill2 (unhide R) (.slice ak n ck) (.int .i64 s.valid))
          obtain ⟨U, hU⟩ : ∃ U, U = ((ws10.setCell ⟨ws1.heap.size, 0, none⟩ (.slice ak n ck)).setCell ⟨ws1.heap.size, 1, none⟩ (.int .i64 s.valid)) := ⟨_, rfl⟩
          have F9 := unhide F
          rw [← hU] at F9
          have EU := hU.symm; clear F hU; have v0 := F9.obj.cell 0 rfl; have v1 := F9.obj.cell 1 rfl; have F := hide F9; clear F9
          go_wp2_with (refine bodyPost_ret (by simp [results, Try.results24, go_sem, v0, v1]; try rfl) rfl ?_)
          clear EU; have F := unhide F
          rw [unhide ANS]
          exact ⟨_, rfl, ⟨KL, unhide HK, ⟨F.row (by decide) (unhide SK).row, fun x hx => ⟨F.row (by decide) ((unhide SK).each x hx).1, F.row (by decide) ((unhide SK).each x hx).2⟩⟩⟩, F.below loR (unhide BB)⟩
        | true =>
          have BX := hide (atV_true (unhide ATX)); have BY := hide (atV_true (unhide ATY)); have OKX := hide ((unhide RT).each _ (boxAt_mem (unhide BX)).1).1; have OKY := hide ((unhide RT).each _ (boxAt_mem (unhide BY)).1).1; have FX := hide (fit_ok (unhide OKX)); have l30 := (head_parts (boxOk_iff.1 (unhide OKX)).1).2.2.2.2.1
          obtain ⟨nx, hnx⟩ : ∃ nx, nx = zX.mails.length := ⟨_, rfl⟩
          have HNX := hide hnx
          rw [← hnx] at l30
          have OXM : Hid (OwnMl w.heap.size ws10 (.slice amX nx cmX) zX.mails) := by show OwnMl _ _ _ _; rw [hnx]; exact (unhide OX).1
          have X2 : Hid (HasObj ws10 (ws7.heap.size) 39 [.string zX.name, .int .i64 zX.valid, .int .i64 zX.next, .int .i64 zX.mod, .slice amX nx cmX, .slice atX zX.tombs.length ctX, .int .i64 zX.hor]) := by show HasObj _ _ _ _; rw [hnx]; exact unhide X
          clear X OX hnx; have X := X2; clear X2; have Xc0_5 := (unhide X).cell 0 rfl; have Xc1_5 := (unhide X).cell 1 rfl; have Xc2_5 := (unhide X).cell 2 rfl; have Xc3_5 := (unhide X).cell 3 rfl; have Xc4_5 := (unhide X).cell 4 rfl; have Xc5_5 := (unhide X).cell 5 rfl; have Xc6_5 := (unhide X).cell 6 rfl
          go_wp2
          clear Xc0_5 Xc1_5 Xc2_5 Xc3_5 Xc4_5 Xc5_5 Xc6_5 EY
          obtain ⟨REL, HREL⟩ : ∃ REL : Value → World → Prop, Hid (REL = fun i wr => ∃ (k : Nat) (x : Lb), k ≤ nx ∧ i = .int .i64 k ∧ boxOk x.b = true ∧ addAll zY (inSet set zX) = addAll x.b ((zX.mails.drop k).filter fun m => hasB set m.uid) ∧ HasObj wr (w.heap.size) 33 [.slice a1 n c1, .int .i64 s.valid] ∧ HasObj wr (ws1.heap.size) 33 [.slice none 0 0, .int .i64 0] ∧ HasObj wr (ws3.heap.size) 33 [.slice ak n ck, .int .i64 s.valid] ∧ HasObj wr (ws7.heap.size) 39 [.string zX.name, .int .i64 zX.valid, .int .i64 zX.next, .int .i64 zX.mod, .slice amX nx cmX, .slice atX zX.tombs.length ctX, .int .i64 zX.hor] ∧ HasObj wr (ws9.heap.size) 39 (lbC x) ∧ OwnBx w.heap.size wr x.m x.t x.b ∧ OwnBs B wr (.slice a1 n c1) L ∧ OwnBs w.heap.size wr (.slice ak n ck) KL ∧ OwnMl w.heap.size wr (.slice amX nx cmX) zX.mails ∧ OwnR B2 wr vs set ∧ Below w.heap.size w wr) := ⟨_, rfl⟩
          go_loopw [15] (fun i wr => REL i wr) (fun i _ => nx - (intOf i).toNat)
          case atStart => rw [unhide HREL]; exact ⟨0, ⟨zY, .slice amY zY.mails.length cmY, .slice atY zY.tombs.length ctY⟩, Nat.zero_le _, rfl, unhide OKY, rfl, unhide A, unhide R, unhide S, unhide X, unhide Y, unhide OY, unhide S1, unhide SK, unhide OXM, unhide RS, unhide BB⟩
          clear A R S X Y OY S1 SK OXM RS BB
          case round =>
            rw [unhide HREL] at hrel
            obtain ⟨k, x, hk, rfl, hxk, hall, oA, oR, oS, oX, oY, ox, o1, ok_, om, ors, hbel⟩ := hrel
            obtain ⟨wo, hwo⟩ : ∃ wo, wo = wr := ⟨_, rfl⟩
            subst hwo
            obtain ⟨xb, xm, xt⟩ := x
            simp only at hxk hall ox
            obtain ⟨amx, cmx, rfl⟩ := g_shape ox.1
            obtain ⟨atx, ctx, rfl⟩ := g_shape ox.2
            have HXK := hide hxk; have HALL := hide hall; clear hxk hall
            by_cases hlt : k < nx
            · have hkl : k < zX.mails.length := by rw [← unhide HNX]; exact hlt
              have hgk : zX.mails[k]? = some zX.mails[k] := List.getElem?_eq_getElem hkl
              obtain ⟨gb, qb, e1, _, _, _, _, _⟩ := ml_read om (Below.refl _ _) hgk
              have e3 := (Value.slice.inj e1).1; clear e1
              subst e3
              have htx := (unhide FX).texts _ (List.getElem_mem hkl); have DK := hide (show zX.mails.drop k = zX.mails[k] :: zX.mails.drop (k + 1) from List.drop_eq_getElem_cons hkl)
              have MC := hide (fun (W : World) (h : OwnMl w.heap.size W (.slice (some ⟨gb, 0, none⟩) nx cmX) zX.mails) => mail_cellsN h hgk)
              generalize zX.mails[k] = f at *
              clear hgk hkl; have A := hide oA; have R := hide oR; have S := hide oS; have X := hide oX; have Y := hide oY; have OY := hide ox; have S1 := hide o1; have SK := hide ok_; have OXM := hide om; have RS := hide ors; have BB := hide hbel; clear oA oR oS oX oY ox o1 ok_ om ors hbel
              have i1 : (0 : Int) ≤ (k : Int) := by omega
              have i2 : (k : Int) < (nx : Int) := by omega
              have Xc0_6 := (unhide X).cell 0 rfl; have Xc1_6 := (unhide X).cell 1 rfl; have Xc2_6 := (unhide X).cell 2 rfl; have Xc3_6 := (unhide X).cell 3 rfl; have Xc4_6 := (unhide X).cell 4 rfl; have Xc5_6 := (unhide X).cell 5 rfl; have Xc6_6 := (unhide X).cell 6 rfl
              obtain ⟨c0, c1, c2, c3⟩ := unhide MC _ (unhide OXM)
              go_wp2_with fail; clear Xc0_6 Xc1_6 Xc2_6 Xc3_6 Xc4_6 Xc5_6 Xc6_6 c0 c1 c2 c3
              refine (setHasS_held set f.uid vs _ _ hs (unhide RS)).mono ?_
              rintro e wsr1 ⟨rfl, hb⟩
              replace A := hide ((unhide A).ups hb); replace R := hide ((unhide R).ups hb); replace S := hide ((unhide S).ups hb); replace X := hide ((unhide X).ups hb); replace Y := hide ((unhide Y).ups hb); replace OY := hide ((unhide OY).up hb); replace S1 := hide ((unhide S1).up hb); replace SK := hide ((unhide SK).up hb); replace OXM := hide ((unhide OXM).up hb); replace RS := hide ((unhide RS).up hb); have sz101 := hide (hb.size); replace BB := hide (below_y (unhide BB) hb); clear hb
              cases hd : hasB set f.uid with
              | false =>
                have NX : Hid (addAll zY (inSet set zX) = addAll xb ((zX.mails.drop (k + 1)).filter fun m => hasB set m.uid)) := by show _ = _; rw [unhide HALL, unhide DK, List.filter_cons_of_neg (p := fun (m : Ml) => hasB set m.uid) (by rw [hd]; decide)]
                clear hd
                go_wp2
                go_roundw
                case rel => rw [unhide HREL]; exact ⟨k + 1, ⟨xb, .slice amx xb.mails.length cmx, .slice atx xb.tombs.length ctx⟩, by omega, by go_num, unhide HXK, unhide NX, unhide A, unhide R, unhide S, unhide X, unhide Y, unhide OY, unhide S1, unhide SK, unhide OXM, unhide RS, unhide BB⟩
                case measure => simp [intOf]; omega
              | true =>
                have NX : Hid (addAll zY (inSet set zX) = addAll xb (f :: (zX.mails.drop (k + 1)).filter fun m => hasB set m.uid)) := by show _ = _; rw [unhide HALL, unhide DK, List.filter_cons_of_pos (p := fun (m : Ml) => hasB set m.uid) hd]
                clear hd; have FB := hide (fit_ok (unhide HXK)); have h30 := (head_parts (boxOk_iff.1 (unhide HXK)).1).2.2.2.2.1
                obtain ⟨z, uid, hz⟩ : ∃ z uid, (z, uid) = addV xb f.flags f.text := ⟨_, _, rfl⟩
                have HZ := hide hz; clear hz
                have hszW : Hid (w.heap.size ≤ wsr1.heap.size) := (unhide BB).size
                have NSLT_S1 : Hid (∀ q, BlkBs (.slice a1 n c1) L q → q < wsr1.heap.size) := fun q h => Nat.lt_trans (unhide NS q (.inl h)) (unhide Y).lt
                have NSLT_SK : Hid (∀ q, BlkBs (.slice ak n ck) KL q → q < wsr1.heap.size) := fun q h => Nat.lt_trans (unhide NS q (.inr h)) (unhide Y).lt
                have Xc0_7 := (unhide X).cell 0 rfl; have Xc1_7 := (unhide X).cell 1 rfl; have Xc2_7 := (unhide X).cell 2 rfl; have Xc3_7 := (unhide X).cell 3 rfl; have Xc4_7 := (unhide X).cell 4 rfl; have Xc5_7 := (unhide X).cell 5 rfl; have Xc6_7 := (unhide X).cell 6 rfl; have Yc0_8 := (unhide Y).cell 0 rfl; have Yc1_8 := (unhide Y).cell 1 rfl; have Yc2_8 := (unhide Y).cell 2 rfl; have Yc3_8 := (unhide Y).cell 3 rfl; have Yc4_8 := (unhide Y).cell 4 rfl; have Yc5_8 := (unhide Y).cell 5 rfl; have Yc6_8 := (unhide Y).cell 6 rfl
                go_wp2
                clear Xc0_7 Xc1_7 Xc2_7 Xc3_7 Xc4_7 Xc5_7 Xc6_7 Yc0_8 Yc1_8 Yc2_8 Yc3_8 Yc4_8 Yc5_8 Yc6_8; have B0 := BB
                go_cut [16, 17] from 48 to 84 (fun s16 s17 wc => ∃ (amz atz : Option Addr) (cmz ctz : Nat) (bxN : Nat), s16 = .pointer (some ⟨bxN, 0, none⟩) ∧ s17 = .int .i64 uid ∧ OwnBx wsr1.heap.size wc (.slice amz z.mails.length cmz) (.slice atz z.tombs.length ctz) z ∧ HasObj wc bxN 39 [.string z.name, .int .i64 z.valid, .int .i64 z.next, .int .i64 z.mod, .slice amz z.mails.length cmz, .slice atz z.tombs.length ctz, .int .i64 z.hor] ∧ wsr1.heap.size ≤ bxN ∧ Below wsr1.heap.size wsr1 wc)
                case first =>
                  clear BB; have BB := hide (Below.refl wsr1.heap.size wsr1)
                  refine wp_region_held_drew (S := fun w' => w'.cell? ⟨ws9.heap.size, 0, none⟩ = some (.string xb.name) ∧ w'.cell? ⟨ws9.heap.size, 1, none⟩ = some (.int .i64 xb.valid) ∧ w'.cell? ⟨ws9.heap.size, 2, none⟩ = some (.int .i64 xb.next) ∧ w'.cell? ⟨ws9.heap.size, 3, none⟩ = some (.int .i64 xb.mod) ∧ w'.cell? ⟨ws9.heap.size, 4, none⟩ = some (.slice amx xb.mails.length cmx) ∧ w'.cell? ⟨ws9.heap.size, 5, none⟩ = some (.slice atx xb.tombs.length ctx) ∧ w'.cell? ⟨ws9.heap.size, 6, none⟩ = some (.int .i64 xb.hor) ∧ w'.cell? ⟨ws7.heap.size, 4, none⟩ = some (.slice (some ⟨gb, 0, none⟩) nx cmX) ∧ w'.cell? ⟨gb, k * 4 + 1, none⟩ = some (.int .i64 f.flags) ∧ w'.cell? ⟨gb, k * 4 + 3, none⟩ = some (.string f.text)) (by kernel_rfl) (⟨(unhide Y).cell 0 rfl, (unhide Y).cell 1 rfl, (unhide Y).cell 2 rfl, (unhide Y).cell 3 rfl, (unhide Y).cell 4 rfl, (unhide Y).cell 5 rfl, (unhide Y).cell 6 rfl, (unhide X).cell 4 rfl, (unhide MC _ (unhide OXM)).2.1, (unhide MC _ (unhide OXM)).2.2.2⟩) (fun hHeld => ?_)
                  replace A := hide ((unhide A).drew); replace R := hide ((unhide R).drew); replace S := hide ((unhide S).drew); replace X := hide ((unhide X).drew); replace Y := hide ((unhide Y).drew); replace OY := hide ((unhide OY).drew); replace S1 := hide ((unhide S1).drew); replace SK := hide ((unhide SK).drew); replace OXM := hide ((unhide OXM).drew); replace RS := hide ((unhide RS).drew); replace BB := hide ((unhide BB).drew)
                  have sz102 : Hid (wsr1.heap.size ≤ wsr1.drew.heap.size) := Nat.le_refl _
                  refine takeVal 0 (some 65) ?_ rfl (by kernel_rfl) (by kernel_rfl) (by kernel_rfl) rfl (fun _ _ _ h => h) (by rfl) (by assumption) ?_ ?_; rotate_left; (intro w hSw; (try dsimp only at hSw); go_simp <;> with_reducible rfl); simp only [Act.put, List.setIfInBounds_toArray, List.set_cons_zero, List.set_cons_succ]
                  refine takeVal 1 (some 66) ?_ rfl (by kernel_rfl) (by kernel_rfl) (by kernel_rfl) rfl (fun _ _ _ h => h) (by rfl) (by assumption) ?_ ?_; rotate_left; (intro w hSw; (try dsimp only at hSw); go_simp <;> with_reducible rfl); simp only [Act.put, List.setIfInBounds_toArray, List.set_cons_zero, List.set_cons_succ]
                  refine takeVal 2 (some 67) ?_ rfl (by kernel_rfl) (by kernel_rfl) (by kernel_rfl) rfl (fun _ _ _ h => h) (by rfl) (by assumption) ?_ ?_; rotate_left; (intro w hSw; (try dsimp only at hSw); go_simp <;> with_reducible rfl); simp only [Act.put, List.setIfInBounds_toArray, List.set_cons_zero, List.set_cons_succ]
                  refine takeVal 3 (some 68) ?_ rfl (by kernel_rfl) (by kernel_rfl) (by kernel_rfl) rfl (fun _ _ _ h => h) (by rfl) (by assumption) ?_ ?_; rotate_left; (intro w hSw; (try dsimp only at hSw); go_simp <;> with_reducible rfl); simp only [Act.put, List.setIfInBounds_toArray, List.set_cons_zero, List.set_cons_succ]
                  refine takeVal 4 (some 69) ?_ rfl (by kernel_rfl) (by kernel_rfl) (by kernel_rfl) rfl (fun _ _ _ h => h) (by rfl) (by assumption) ?_ ?_; rotate_left; (intro w hSw; (try dsimp only at hSw); go_simp <;> with_reducible rfl); simp only [Act.put, List.setIfInBounds_toArray, List.set_cons_zero, List.set_cons_succ]
                  refine takeVal 5 (some 70) ?_ rfl (by kernel_rfl) (by kernel_rfl) (by kernel_rfl) rfl (fun _ _ _ h => h) (by rfl) (by assumption) ?_ ?_; rotate_left; (intro w hSw; (try dsimp only at hSw); go_simp <;> with_reducible rfl); simp only [Act.put, List.setIfInBounds_toArray, List.set_cons_zero, List.set_cons_succ]
                  refine takeVal 6 (some 71) ?_ rfl (by kernel_rfl) (by kernel_rfl) (by kernel_rfl) rfl (fun _ _ _ h => h) (by rfl) (by assumption) ?_ ?_; rotate_left; (intro w hSw; (try dsimp only at hSw); go_simp <;> with_reducible rfl); simp only [Act.put, List.setIfInBounds_toArray, List.set_cons_zero, List.set_cons_succ]
                  refine takeVal 7 (some 72) ?_ rfl (by kernel_rfl) (by kernel_rfl) (by kernel_rfl) rfl (fun _ _ _ h => h) (by rfl) (by assumption) ?_ ?_; rotate_left; (intro w hSw; (try dsimp only at hSw); go_simp <;> with_reducible rfl); simp only [Act.put, List.setIfInBounds_toArray, List.set_cons_zero, List.set_cons_succ]
                  refine takeVal 8 (some 73) ?_ rfl (by kernel_rfl) (by kernel_rfl) (by kernel_rfl) rfl (fun _ _ _ h => h) (by rfl) (by assumption) ?_ ?_; rotate_left; (intro w hSw; (try dsimp only at hSw); go_simp <;> with_reducible rfl); simp only [Act.put, List.setIfInBounds_toArray, List.set_cons_zero, List.set_cons_succ]
                  refine takeVal 9 (some 74) ?_ rfl (by kernel_rfl) (by kernel_rfl) (by kernel_rfl) rfl (fun _ _ _ h => h) (by rfl) (by assumption) ?_ ?_; rotate_left; (intro w hSw; (try dsimp only at hSw); go_simp <;> with_reducible rfl); simp only [Act.put, List.setIfInBounds_toArray, List.set_cons_zero, List.set_cons_succ]
                  refine takeVal 10 (some 75) ?_ rfl (by kernel_rfl) (by kernel_rfl) (by kernel_rfl) rfl (fun _ _ _ h => h) (by rfl) (by assumption) ?_ ?_; rotate_left; (intro w hSw; (try dsimp only at hSw); go_simp <;> with_reducible rfl); simp only [Act.put, List.setIfInBounds_toArray, List.set_cons_zero, List.set_cons_succ]
                  refine takeVal 11 (some 76) ?_ rfl (by kernel_rfl) (by kernel_rfl) (by kernel_rfl) rfl (fun _ _ _ h => h) (by rfl) (by assumption) ?_ ?_; rotate_left; (intro w hSw; (try dsimp only at hSw); go_simp <;> with_reducible rfl); simp only [Act.put, List.setIfInBounds_toArray, List.set_cons_zero, List.set_cons_succ]
                  refine takeVal 12 (some 77) ?_ rfl (by kernel_rfl) (by kernel_rfl) (by kernel_rfl) rfl (fun _ _ _ h => h) (by rfl) (by assumption) ?_ ?_; rotate_left; (intro w hSw; (try dsimp only at hSw); go_simp <;> with_reducible rfl); simp only [Act.put, List.setIfInBounds_toArray, List.set_cons_zero, List.set_cons_succ]
                  refine wpAnyH_ready (rs := [13, 17]) (by kernel_rfl) (by simp) ?_
                  refine (AllReadyH.cons rfl (fun K hK => ?_) (AllReadyH.cons rfl (fun K hK => ?_) AllReadyH.nil))
                  · skip
                    go_simp
                    refine (spec_AddMail_any xb _ _ _ f.flags f.text _ (unhide FB) (by omega) htx (unhide OY)).mono ?_
                    rintro e wsre2 ⟨mN, tN, rfl, oN, hb⟩
                    rw [← unhide HZ] at oN ⊢
                    simp only at oN ⊢
                    obtain ⟨amN, cmN, rfl⟩ := g_shape oN.1
                    obtain ⟨atN, ctN, rfl⟩ := g_shape oN.2
                    have ON_ : Hid (OwnBx wsr1.heap.size _ _ _ z) := oN.based (unhide BB).size
                    clear oN; replace A := hide ((unhide A).ups hb); replace R := hide ((unhide R).ups hb); replace S := hide ((unhide S).ups hb); replace X := hide ((unhide X).ups hb); replace Y := hide ((unhide Y).ups hb); replace OY := hide ((unhide OY).up hb); replace S1 := hide ((unhide S1).up hb); replace SK := hide ((unhide SK).up hb); replace OXM := hide ((unhide OXM).up hb); replace RS := hide ((unhide RS).up hb); have sz103 := hide (hb.size); replace BB := hide (below_y (unhide BB) hb); clear hb; have ON := ON_; clear ON_; go_wp2_with fail
                    refine hK.out _ _ (⟨(unhide Y).cell 0 rfl, (unhide Y).cell 1 rfl, (unhide Y).cell 2 rfl, (unhide Y).cell 3 rfl, (unhide Y).cell 4 rfl, (unhide Y).cell 5 rfl, (unhide Y).cell 6 rfl, (unhide X).cell 4 rfl, (unhide MC _ (unhide OXM)).2.1, (unhide MC _ (unhide OXM)).2.2.2⟩) (fun hHeld2 => ?_)
                    clear hK K hHeld; have hHeld := hHeld2; clear hHeld2
                    try simp only [Act.put, List.setIfInBounds_toArray, List.set_cons_zero, List.set_cons_succ]
                    refine takeVal 14 (some 64) ?_ rfl (by kernel_rfl) (by kernel_rfl) (by kernel_rfl) rfl (fun _ _ _ h => h) (by rfl) (by assumption) ?_ ?_; rotate_left; (intro w hSw; (try dsimp only at hSw); go_simp <;> with_reducible rfl); simp only [Act.put, List.setIfInBounds_toArray, List.set_cons_zero, List.set_cons_succ]
                    refine takeVal 15 (some 79) ?_ rfl (by kernel_rfl) (by kernel_rfl) (by kernel_rfl) rfl (fun _ _ _ h => h) (by rfl) (by assumption) ?_ ?_; rotate_left; (intro w hSw; (try dsimp only at hSw); go_simp <;> with_reducible rfl); simp only [Act.put, List.setIfInBounds_toArray, List.set_cons_zero, List.set_cons_succ]
                    refine takeVal 16 (some 80) ?_ rfl (by kernel_rfl) (by kernel_rfl) (by kernel_rfl) rfl (fun _ _ _ h => h) (by rfl) (by assumption) ?_ ?_; rotate_left; (intro w hSw; (try dsimp only at hSw); go_simp <;> with_reducible rfl); simp only [Act.put, List.setIfInBounds_toArray, List.set_cons_zero, List.set_cons_succ]
                    refine wpAnyH_ready (rs := [17]) (by kernel_rfl) (by simp) ?_
                    refine (AllReadyH.cons rfl (fun K hK => ?_) AllReadyH.nil)
                    go_simp
                    obtain ⟨wsre3, hX⟩ : ∃ X, X = (wsre2.alloc (.cells ([.string ⟨#[]⟩, .int .i64 0, .int .i64 0, .int .i64 0, .slice none 0 0, .slice none 0 0, .int .i64 0] : List Value).toArray 39)) := ⟨_, rfl⟩
                    rw [← hX]
                    have Nx : HasObj wsre3 wsre2.heap.size 39 [.string ⟨#[]⟩, .int .i64 0, .int .i64 0, .int .i64 0, .slice none 0 0, .slice none 0 0, .int .i64 0] := by rw [hX]; exact HasObj.new _ _ _
                    have hbn : Below wsre2.heap.size wsre2 wsre3 := by rw [hX]; exact (Below.refl wsre2.heap.size wsre2).alloc (Nat.le_refl _) _
                    clear hX
                    have neAN : w.heap.size ≠ wsre2.heap.size := Nat.ne_of_lt (unhide A).lt
                    have neRN : ws1.heap.size ≠ wsre2.heap.size := Nat.ne_of_lt (unhide R).lt
                    have neSN : ws3.heap.size ≠ wsre2.heap.size := Nat.ne_of_lt (unhide S).lt
                    have neXN : ws7.heap.size ≠ wsre2.heap.size := Nat.ne_of_lt (unhide X).lt
                    have neYN : ws9.heap.size ≠ wsre2.heap.size := Nat.ne_of_lt (unhide Y).lt
                    have loN : wsr1.heap.size ≤ wsre2.heap.size := (unhide BB).size
                    replace A := hide ((unhide A).ups hbn); replace R := hide ((unhide R).ups hbn); replace S := hide ((unhide S).ups hbn); replace X := hide ((unhide X).ups hbn); replace Y := hide ((unhide Y).ups hbn); replace OY := hide ((unhide OY).up hbn); replace S1 := hide ((unhide S1).up hbn); replace SK := hide ((unhide SK).up hbn); replace OXM := hide ((unhide OXM).up hbn); replace RS := hide ((unhide RS).up hbn); replace ON := hide ((unhide ON).up hbn); have sz104 := hide (hbn.size); replace BB := hide (below_y (unhide BB) hbn); clear hbn; have N := hide Nx; clear Nx
                    refine hK.out _ _ (⟨(unhide Y).cell 0 rfl, (unhide Y).cell 1 rfl, (unhide Y).cell 2 rfl, (unhide Y).cell 3 rfl, (unhide Y).cell 4 rfl, (unhide Y).cell 5 rfl, (unhide Y).cell 6 rfl, (unhide X).cell 4 rfl, (unhide MC _ (unhide OXM)).2.1, (unhide MC _ (unhide OXM)).2.2.2⟩) (fun hHeld2 => ?_)
                    clear hK K hHeld; have hHeld := hHeld2; clear hHeld2
                    try simp only [Act.put, List.setIfInBounds_toArray, List.set_cons_zero, List.set_cons_succ]
                    have Nf0 := (unhide N).frozen 0; have Nf1 := (unhide N).frozen 1; have Nf2 := (unhide N).frozen 2; have Nf3 := (unhide N).frozen 3; have Nf4 := (unhide N).frozen 4; have Nf5 := (unhide N).frozen 5; have Nf6 := (unhide N).frozen 6; have Ne0 := (unhide N).cell 0 rfl; have Ne1 := (unhide N).cell 1 rfl; have Ne2 := (unhide N).cell 2 rfl; have Ne3 := (unhide N).cell 3 rfl; have Ne4 := (unhide N).cell 4 rfl; have Ne5 := (unhide N).cell 5 rfl; have Ne6 := (unhide N).cell 6 rfl; have F_ := hide (fill7 (unhide N) (.string z.name) (.int .i64 z.valid) (.int .i64 z.next) (.int .i64 z.mod) (.slice amN z.mails.length cmN) (.slice atN z.tombs.length ctN) (.int .i64 z.hor))
                    refine wpAnyH_ready (rs := [18]) (by kernel_rfl) (by simp) ?_
                    refine AllReadyH.cons rfl (fun K hK => ?_) AllReadyH.nil
                    go_simp
                    obtain ⟨wsre4, hU⟩ : ∃ U, U = (((((((wsre3.setCell ⟨wsre2.heap.size, 0, none⟩ (.string z.name)).setCell ⟨wsre2.heap.size, 1, none⟩ (.int .i64 z.valid)).setCell ⟨wsre2.heap.size, 2, none⟩ (.int .i64 z.next)).setCell ⟨wsre2.heap.size, 3, none⟩ (.int .i64 z.mod)).setCell ⟨wsre2.heap.size, 4, none⟩ (.slice amN z.mails.length cmN)).setCell ⟨wsre2.heap.size, 5, none⟩ (.slice atN z.tombs.length ctN)).setCell ⟨wsre2.heap.size, 6, none⟩ (.int .i64 z.hor)) := ⟨_, rfl⟩
                    have GU_ : wsre3.grownBy wsre4 (some (wsre2.heap.size)) := by rw [hU]; exact g_store (g_store (g_store (g_store (g_store (g_store (g_store (g_self _ _) _) _) _) _) _) _) _
                    have F := unhide F_
                    rw [← hU] at F ⊢
                    clear hU F_; clear Nf0 Nf1 Nf2 Nf3 Nf4 Nf5 Nf6 Ne0 Ne1 Ne2 Ne3 Ne4 Ne5 Ne6; have A_ := hide (F.other neAN (unhide A)); have R_ := hide (F.other neRN (unhide R)); have S_ := hide (F.other neSN (unhide S)); have X_ := hide (F.other neXN (unhide X)); have Y_ := hide (F.other neYN (unhide Y)); have N_ := hide (F.obj)
                    have OY_ : Hid (OwnBx w.heap.size wsre4 (.slice amx xb.mails.length cmx) (.slice atx xb.tombs.length ctx) xb) := ⟨F.row (by decide) (unhide OY).1, F.row (by decide) (unhide OY).2⟩
                    have S1_ : Hid (OwnBs B wsre4 (.slice a1 n c1) (L)) := (unhide S1).butB (GrownBut.of GU_) (fun q h1 h2 => by have q1_ := unhide NSLT_S1 q h1; have q2_ := Option.some.inj h2; have q3_ := loN; omega)
                    have SK_ : Hid (OwnBs w.heap.size wsre4 (.slice ak n ck) (KL)) := (unhide SK).butB (GrownBut.of GU_) (fun q h1 h2 => by have q1_ := unhide NSLT_SK q h1; have q2_ := Option.some.inj h2; have q3_ := loN; omega)
                    have OXM_ : Hid (OwnMl w.heap.size wsre4 (.slice (some ⟨gb, 0, none⟩) nx cmX) (zX.mails)) := F.row (by decide) (unhide OXM)
                    have RS_ : Hid (OwnR B2 wsre4 (vs) (set)) := F.row (by decide) (unhide RS)
                    have ON_ : Hid (OwnBx wsr1.heap.size wsre4 (.slice amN z.mails.length cmN) (.slice atN z.tombs.length ctN) z) := ⟨F.row (by decide) (unhide ON).1, F.row (by decide) (unhide ON).2⟩
                    have BB_ : Hid (Below wsr1.heap.size wsr1 wsre4) := F.below loN (unhide BB)
                    have sz105 : Hid (wsre3.heap.size ≤ wsre4.heap.size) := by show _ ≤ _; rw [F.size]; exact Nat.le_refl _
                    replace A := A_; clear A_; replace R := R_; clear R_; replace S := S_; clear S_; replace X := X_; clear X_; replace Y := Y_; clear Y_; replace N := N_; clear N_; replace OY := OY_; clear OY_; replace S1 := S1_; clear S1_; replace SK := SK_; clear SK_; replace OXM := OXM_; clear OXM_; replace RS := RS_; clear RS_; replace ON := ON_; clear ON_; replace BB := BB_; clear BB_; clear F
                    refine hK.out _ _ (⟨(unhide Y).cell 0 rfl, (unhide Y).cell 1 rfl, (unhide Y).cell 2 rfl, (unhide Y).cell 3 rfl, (unhide Y).cell 4 rfl, (unhide Y).cell 5 rfl, (unhide Y).cell 6 rfl, (unhide X).cell 4 rfl, (unhide MC _ (unhide OXM)).2.1, (unhide MC _ (unhide OXM)).2.2.2⟩) (fun hHeld2 => ?_)
                    clear hK K hHeld; have hHeld := hHeld2; clear hHeld2
                    try simp only [Act.put, List.setIfInBounds_toArray, List.set_cons_zero, List.set_cons_succ]
                    refine takeVal 19 (some 17) ?_ rfl (by kernel_rfl) (by kernel_rfl) (by kernel_rfl) rfl (fun _ _ _ h => h) (by rfl) (by assumption) ?_ ?_; rotate_left; (intro w hSw; (try dsimp only at hSw); go_simp <;> with_reducible rfl); simp only [Act.put, List.setIfInBounds_toArray, List.set_cons_zero, List.set_cons_succ]
                    refine wpAnyH_done (by kernel_rfl) ?_ _
                    go_wp2
                    go_meet
                    case rel => exact ⟨_, _, _, _, _, rfl, rfl, unhide ON, unhide N, loN, unhide BB⟩
                  · skip
                    go_simp
                    obtain ⟨wsre2, hX⟩ : ∃ X, X = (wsr1.alloc (.cells ([.string ⟨#[]⟩, .int .i64 0, .int .i64 0, .int .i64 0, .slice none 0 0, .slice none 0 0, .int .i64 0] : List Value).toArray 39)).drew := ⟨_, rfl⟩
                    rw [← hX]
                    have Nx : HasObj wsre2 wsr1.heap.size 39 [.string ⟨#[]⟩, .int .i64 0, .int .i64 0, .int .i64 0, .slice none 0 0, .slice none 0 0, .int .i64 0] := by rw [hX]; exact (HasObj.new _ _ _).drew
                    have hbn : Below wsr1.drew.heap.size wsr1.drew wsre2 := by rw [hX]; exact (Below.refl wsr1.drew.heap.size wsr1.drew).alloc (Nat.le_refl _) _
                    clear hX
                    have neAN : w.heap.size ≠ wsr1.heap.size := Nat.ne_of_lt (unhide A).lt
                    have neRN : ws1.heap.size ≠ wsr1.heap.size := Nat.ne_of_lt (unhide R).lt
                    have neSN : ws3.heap.size ≠ wsr1.heap.size := Nat.ne_of_lt (unhide S).lt
                    have neXN : ws7.heap.size ≠ wsr1.heap.size := Nat.ne_of_lt (unhide X).lt
                    have neYN : ws9.heap.size ≠ wsr1.heap.size := Nat.ne_of_lt (unhide Y).lt
                    have loN : wsr1.heap.size ≤ wsr1.heap.size := (unhide BB).size
                    replace A := hide ((unhide A).ups hbn); replace R := hide ((unhide R).ups hbn); replace S := hide ((unhide S).ups hbn); replace X := hide ((unhide X).ups hbn); replace Y := hide ((unhide Y).ups hbn); replace OY := hide ((unhide OY).up hbn); replace S1 := hide ((unhide S1).up hbn); replace SK := hide ((unhide SK).up hbn); replace OXM := hide ((unhide OXM).up hbn); replace RS := hide ((unhide RS).up hbn); have sz103 := hide (hbn.size); replace BB := hide (below_y (unhide BB) hbn); clear hbn; have N := hide Nx; clear Nx
                    refine hK.out _ _ (⟨(unhide Y).cell 0 rfl, (unhide Y).cell 1 rfl, (unhide Y).cell 2 rfl, (unhide Y).cell 3 rfl, (unhide Y).cell 4 rfl, (unhide Y).cell 5 rfl, (unhide Y).cell 6 rfl, (unhide X).cell 4 rfl, (unhide MC _ (unhide OXM)).2.1, (unhide MC _ (unhide OXM)).2.2.2⟩) (fun hHeld2 => ?_)
                    clear hK K hHeld; have hHeld := hHeld2; clear hHeld2
                    try simp only [Act.put, List.setIfInBounds_toArray, List.set_cons_zero, List.set_cons_succ]
                    refine wpAnyH_ready (rs := [13]) (by kernel_rfl) (by simp) ?_
                    refine (AllReadyH.cons rfl (fun K hK => ?_) AllReadyH.nil)
                    go_simp
                    refine (spec_AddMail_any xb _ _ _ f.flags f.text _ (unhide FB) (by omega) htx (unhide OY)).mono ?_
                    rintro e wsre3 ⟨mN, tN, rfl, oN, hb⟩
                    rw [← unhide HZ] at oN ⊢
                    simp only at oN ⊢
                    obtain ⟨amN, cmN, rfl⟩ := g_shape oN.1
                    obtain ⟨atN, ctN, rfl⟩ := g_shape oN.2
                    have ON_ : Hid (OwnBx wsr1.heap.size _ _ _ z) := oN.based (unhide BB).size
                    clear oN; replace A := hide ((unhide A).ups hb); replace R := hide ((unhide R).ups hb); replace S := hide ((unhide S).ups hb); replace X := hide ((unhide X).ups hb); replace Y := hide ((unhide Y).ups hb); replace N := hide ((unhide N).ups hb); replace OY := hide ((unhide OY).up hb); replace S1 := hide ((unhide S1).up hb); replace SK := hide ((unhide SK).up hb); replace OXM := hide ((unhide OXM).up hb); replace RS := hide ((unhide RS).up hb); have sz104 := hide (hb.size); replace BB := hide (below_y (unhide BB) hb); clear hb; have ON := ON_; clear ON_; go_wp2_with fail
                    refine hK.out _ _ (⟨(unhide Y).cell 0 rfl, (unhide Y).cell 1 rfl, (unhide Y).cell 2 rfl, (unhide Y).cell 3 rfl, (unhide Y).cell 4 rfl, (unhide Y).cell 5 rfl, (unhide Y).cell 6 rfl, (unhide X).cell 4 rfl, (unhide MC _ (unhide OXM)).2.1, (unhide MC _ (unhide OXM)).2.2.2⟩) (fun hHeld2 => ?_)
                    clear hK K hHeld; have hHeld := hHeld2; clear hHeld2
                    try simp only [Act.put, List.setIfInBounds_toArray, List.set_cons_zero, List.set_cons_succ]
                    refine takeVal 14 (some 64) ?_ rfl (by kernel_rfl) (by kernel_rfl) (by kernel_rfl) rfl (fun _ _ _ h => h) (by rfl) (by assumption) ?_ ?_; rotate_left; (intro w hSw; (try dsimp only at hSw); go_simp <;> with_reducible rfl); simp only [Act.put, List.setIfInBounds_toArray, List.set_cons_zero, List.set_cons_succ]
                    refine takeVal 15 (some 79) ?_ rfl (by kernel_rfl) (by kernel_rfl) (by kernel_rfl) rfl (fun _ _ _ h => h) (by rfl) (by assumption) ?_ ?_; rotate_left; (intro w hSw; (try dsimp only at hSw); go_simp <;> with_reducible rfl); simp only [Act.put, List.setIfInBounds_toArray, List.set_cons_zero, List.set_cons_succ]
                    refine takeVal 16 (some 80) ?_ rfl (by kernel_rfl) (by kernel_rfl) (by kernel_rfl) rfl (fun _ _ _ h => h) (by rfl) (by assumption) ?_ ?_; rotate_left; (intro w hSw; (try dsimp only at hSw); go_simp <;> with_reducible rfl); simp only [Act.put, List.setIfInBounds_toArray, List.set_cons_zero, List.set_cons_succ]
                    have Nf0 := (unhide N).frozen 0; have Nf1 := (unhide N).frozen 1; have Nf2 := (unhide N).frozen 2; have Nf3 := (unhide N).frozen 3; have Nf4 := (unhide N).frozen 4; have Nf5 := (unhide N).frozen 5; have Nf6 := (unhide N).frozen 6; have Ne0 := (unhide N).cell 0 rfl; have Ne1 := (unhide N).cell 1 rfl; have Ne2 := (unhide N).cell 2 rfl; have Ne3 := (unhide N).cell 3 rfl; have Ne4 := (unhide N).cell 4 rfl; have Ne5 := (unhide N).cell 5 rfl; have Ne6 := (unhide N).cell 6 rfl; have F_ := hide (fill7 (unhide N) (.string z.name) (.int .i64 z.valid) (.int .i64 z.next) (.int .i64 z.mod) (.slice amN z.mails.length cmN) (.slice atN z.tombs.length ctN) (.int .i64 z.hor))
                    refine wpAnyH_ready (rs := [18]) (by kernel_rfl) (by simp) ?_
                    refine AllReadyH.cons rfl (fun K hK => ?_) AllReadyH.nil
                    go_simp
                    obtain ⟨wsre4, hU⟩ : ∃ U, U = (((((((wsre3.setCell ⟨wsr1.heap.size, 0, none⟩ (.string z.name)).setCell ⟨wsr1.heap.size, 1, none⟩ (.int .i64 z.valid)).setCell ⟨wsr1.heap.size, 2, none⟩ (.int .i64 z.next)).setCell ⟨wsr1.heap.size, 3, none⟩ (.int .i64 z.mod)).setCell ⟨wsr1.heap.size, 4, none⟩ (.slice amN z.mails.length cmN)).setCell ⟨wsr1.heap.size, 5, none⟩ (.slice atN z.tombs.length ctN)).setCell ⟨wsr1.heap.size, 6, none⟩ (.int .i64 z.hor)) := ⟨_, rfl⟩
                    have GU_ : wsre3.grownBy wsre4 (some (wsr1.heap.size)) := by rw [hU]; exact g_store (g_store (g_store (g_store (g_store (g_store (g_store (g_self _ _) _) _) _) _) _) _) _
                    have F := unhide F_
                    rw [← hU] at F ⊢
                    clear hU F_; clear Nf0 Nf1 Nf2 Nf3 Nf4 Nf5 Nf6 Ne0 Ne1 Ne2 Ne3 Ne4 Ne5 Ne6; have A_ := hide (F.other neAN (unhide A)); have R_ := hide (F.other neRN (unhide R)); have S_ := hide (F.other neSN (unhide S)); have X_ := hide (F.other neXN (unhide X)); have Y_ := hide (F.other neYN (unhide Y)); have N_ := hide (F.obj)
                    have OY_ : Hid (OwnBx w.heap.size wsre4 (.slice amx xb.mails.length cmx) (.slice atx xb.tombs.length ctx) xb) := ⟨F.row (by decide) (unhide OY).1, F.row (by decide) (unhide OY).2⟩
                    have S1_ : Hid (OwnBs B wsre4 (.slice a1 n c1) (L)) := (unhide S1).butB (GrownBut.of GU_) (fun q h1 h2 => by have q1_ := unhide NSLT_S1 q h1; have q2_ := Option.some.inj h2; have q3_ := loN; omega)
                    have SK_ : Hid (OwnBs w.heap.size wsre4 (.slice ak n ck) (KL)) := (unhide SK).butB (GrownBut.of GU_) (fun q h1 h2 => by have q1_ := unhide NSLT_SK q h1; have q2_ := Option.some.inj h2; have q3_ := loN; omega)
                    have OXM_ : Hid (OwnMl w.heap.size wsre4 (.slice (some ⟨gb, 0, none⟩) nx cmX) (zX.mails)) := F.row (by decide) (unhide OXM)
                    have RS_ : Hid (OwnR B2 wsre4 (vs) (set)) := F.row (by decide) (unhide RS)
                    have ON_ : Hid (OwnBx wsr1.heap.size wsre4 (.slice amN z.mails.length cmN) (.slice atN z.tombs.length ctN) z) := ⟨F.row (by decide) (unhide ON).1, F.row (by decide) (unhide ON).2⟩
                    have BB_ : Hid (Below wsr1.heap.size wsr1 wsre4) := F.below loN (unhide BB)
                    have sz105 : Hid (wsre3.heap.size ≤ wsre4.heap.size) := by show _ ≤ _; rw [F.size]; exact Nat.le_refl _
                    replace A := A_; clear A_; replace R := R_; clear R_; replace S := S_; clear S_; replace X := X_; clear X_; replace Y := Y_; clear Y_; replace N := N_; clear N_; replace OY := OY_; clear OY_; replace S1 := S1_; clear S1_; replace SK := SK_; clear SK_; replace OXM := OXM_; clear OXM_; replace RS := RS_; clear RS_; replace ON := ON_; clear ON_; replace BB := BB_; clear BB_; clear F
                    refine hK.out _ _ (⟨(unhide Y).cell 0 rfl, (unhide Y).cell 1 rfl, (unhide Y).cell 2 rfl, (unhide Y).cell 3 rfl, (unhide Y).cell 4 rfl, (unhide Y).cell 5 rfl, (unhide Y).cell 6 rfl, (unhide X).cell 4 rfl, (unhide MC _ (unhide OXM)).2.1, (unhide MC _ (unhide OXM)).2.2.2⟩) (fun hHeld2 => ?_)
                    clear hK K hHeld; have hHeld := hHeld2; clear hHeld2
                    try simp only [Act.put, List.setIfInBounds_toArray, List.set_cons_zero, List.set_cons_succ]
                    refine takeVal 19 (some 17) ?_ rfl (by kernel_rfl) (by kernel_rfl) (by kernel_rfl) rfl (fun _ _ _ h => h) (by rfl) (by assumption) ?_ ?_; rotate_left; (intro w hSw; (try dsimp only at hSw); go_simp <;> with_reducible rfl); simp only [Act.put, List.setIfInBounds_toArray, List.set_cons_zero, List.set_cons_succ]
                    refine wpAnyH_done (by kernel_rfl) ?_ _
                    go_wp2
                    go_meet
                    case rel => exact ⟨_, _, _, _, _, rfl, rfl, unhide ON, unhide N, loN, unhide BB⟩
                case rest =>
                  obtain ⟨amN, atN, cmN, ctN, bxN, rfl, rfl, oN, obN, hloN, hb⟩ := hcut
                  obtain ⟨wsr2, rfl⟩ : ∃ x, x = wc := ⟨_, rfl⟩
                  have neAN : w.heap.size ≠ bxN := Nat.ne_of_lt (Nat.lt_of_lt_of_le (unhide A).lt hloN)
                  have neRN : ws1.heap.size ≠ bxN := Nat.ne_of_lt (Nat.lt_of_lt_of_le (unhide R).lt hloN)
                  have neSN : ws3.heap.size ≠ bxN := Nat.ne_of_lt (Nat.lt_of_lt_of_le (unhide S).lt hloN)
                  have neXN : ws7.heap.size ≠ bxN := Nat.ne_of_lt (Nat.lt_of_lt_of_le (unhide X).lt hloN)
                  have neYN : ws9.heap.size ≠ bxN := Nat.ne_of_lt (Nat.lt_of_lt_of_le (unhide Y).lt hloN)
                  have loN : w.heap.size ≤ bxN := Nat.le_trans (unhide BB).size hloN
                  clear B0; replace A := hide ((unhide A).ups hb); replace R := hide ((unhide R).ups hb); replace S := hide ((unhide S).ups hb); replace X := hide ((unhide X).ups hb); replace Y := hide ((unhide Y).ups hb); replace OY := hide ((unhide OY).up hb); replace S1 := hide ((unhide S1).up hb); replace SK := hide ((unhide SK).up hb); replace OXM := hide ((unhide OXM).up hb); replace RS := hide ((unhide RS).up hb); have sz102 := hide (hb.size); replace BB := hide (below_y (unhide BB) hb); clear hb; have N := hide obN; clear obN; have ON := hide oN; clear oN
                  have EU2 : Hid (uid = (addV xb f.flags f.text).2) := congrArg Prod.snd (unhide HZ)
                  have EZ2 : Hid (z = (addV xb f.flags f.text).1) := congrArg Prod.fst (unhide HZ)
                  by_cases hu : uid = 0
                  · have d0 : (uid == 0) = true := beq_iff_eq.2 hu
                    have NO : Hid (addAll zY (inSet set zX) = none) := by show _ = _; rw [unhide NX]; exact addAll_no (by rw [← unhide EU2]; exact hu)
                    clear hu
                    have ANS : Hid (copyV s src set dst = (s, 3)) := by show _ = _; rw [unhide CV, unhide BX, unhide BY]; simp only; rw [unhide NO]
                    have Sc0_9 := (unhide S).cell 0 rfl; have Sc1_9 := (unhide S).cell 1 rfl; have Rf0 := (unhide R).frozen 0; have Rf1 := (unhide R).frozen 1; have Re0 := (unhide R).cell 0 rfl; have Re1 := (unhide R).cell 1 rfl; have F := hide (fill2 (unhide R) (.slice ak n ck) (.int .i64 s.valid))
                    obtain ⟨U, hU⟩ : ∃ U, U = ((wsr2.setCell ⟨ws1.heap.size, 0, none⟩ (.slice ak n ck)).setCell ⟨ws1.heap.size, 1, none⟩ (.int .i64 s.valid)) := ⟨_, rfl⟩
                    have F9 := unhide F
                    rw [← hU] at F9
                    have EU := hU.symm; clear F hU; have v0 := F9.obj.cell 0 rfl; have v1 := F9.obj.cell 1 rfl; have F := hide F9; clear F9
                    go_wp2_with (refine bodyPost_ret (by simp [results, Try.results24, go_sem, v0, v1]; try rfl) rfl ?_)
                    clear EU; have F := unhide F
                    rw [unhide ANS]
                    exact ⟨_, rfl, ⟨KL, unhide HK, ⟨F.row (by decide) (unhide SK).row, fun x hx => ⟨F.row (by decide) ((unhide SK).each x hx).1, F.row (by decide) ((unhide SK).each x hx).2⟩⟩⟩, F.below loR (unhide BB)⟩
                  · have d0 : (uid == 0) = false := beq_eq_false_iff_ne.2 hu
                    have YES : Hid (addAll zY (inSet set zX) = addAll z ((zX.mails.drop (k + 1)).filter fun m => hasB set m.uid)) := by show _ = _; rw [unhide NX, addAll_yes (by rw [← unhide EU2]; exact hu), ← unhide EZ2]
                    have ZOK : Hid (boxOk z = true) := by show _ = _; rw [unhide EZ2]; exact addV_ok (by rw [← unhide EU2]; exact hu)
                    clear hu; have Nc0_9 := (unhide N).cell 0 rfl; have Nc1_9 := (unhide N).cell 1 rfl; have Nc2_9 := (unhide N).cell 2 rfl; have Nc3_9 := (unhide N).cell 3 rfl; have Nc4_9 := (unhide N).cell 4 rfl; have Nc5_9 := (unhide N).cell 5 rfl; have Nc6_9 := (unhide N).cell 6 rfl; have Yf0 := (unhide Y).frozen 0; have Yf1 := (unhide Y).frozen 1; have Yf2 := (unhide Y).frozen 2; have Yf3 := (unhide Y).frozen 3; have Yf4 := (unhide Y).frozen 4; have Yf5 := (unhide Y).frozen 5; have Yf6 := (unhide Y).frozen 6; have Ye0 := (unhide Y).cell 0 rfl; have Ye1 := (unhide Y).cell 1 rfl; have Ye2 := (unhide Y).cell 2 rfl; have Ye3 := (unhide Y).cell 3 rfl; have Ye4 := (unhide Y).cell 4 rfl; have Ye5 := (unhide Y).cell 5 rfl; have Ye6 := (unhide Y).cell 6 rfl; have F_ := fill7 (unhide Y) (.string z.name) (.int .i64 z.valid) (.int .i64 z.next) (.int .i64 z.mod) (.slice amN z.mails.length cmN) (.slice atN z.tombs.length ctN) (.int .i64 z.hor); have FG := @fillS_grown wsr2 (ws9.heap.size) (.string z.name) (.int .i64 z.valid) (.int .i64 z.next) (.int .i64 z.mod) (.slice amN z.mails.length cmN) (.slice atN z.tombs.length ctN) (.int .i64 z.hor)
                    obtain ⟨wsy3, hU⟩ : ∃ X, X = (((((((wsr2.setCell ⟨ws9.heap.size, 0, none⟩ (.string z.name)).setCell ⟨ws9.heap.size, 1, none⟩ (.int .i64 z.valid)).setCell ⟨ws9.heap.size, 2, none⟩ (.int .i64 z.next)).setCell ⟨ws9.heap.size, 3, none⟩ (.int .i64 z.mod)).setCell ⟨ws9.heap.size, 4, none⟩ (.slice amN z.mails.length cmN)).setCell ⟨ws9.heap.size, 5, none⟩ (.slice atN z.tombs.length ctN)).setCell ⟨ws9.heap.size, 6, none⟩ (.int .i64 z.hor)) := ⟨_, rfl⟩
                    rw [← hU] at F_ FG
                    have EU := hU.symm; clear hU; have A_ := hide (F_.other (neAY) (unhide A)); have R_ := hide (F_.other (neRY) (unhide R)); have S_ := hide (F_.other (neSY) (unhide S)); have X_ := hide (F_.other (neXY) (unhide X)); have Y_ := hide F_.obj
                    have OXM_ : Hid (OwnMl w.heap.size wsy3 (.slice (some ⟨gb, 0, none⟩) nx cmX) zX.mails) := F_.row (by decide) (unhide OXM)
                    have RS_ : Hid (OwnR B2 wsy3 vs set) := F_.row (by decide) (unhide RS)
                    have OY_ : Hid (OwnBx w.heap.size wsy3 (.slice amN z.mails.length cmN) (.slice atN z.tombs.length ctN) z) := OwnBx.based ⟨F_.row (by decide) (unhide ON).1, F_.row (by decide) (unhide ON).2⟩ (unhide hszW)
                    have S1_ := hide ((unhide S1).butB (GrownBut.of FG) (fun q h1 h2 => by have q1_ := unhide NS q (.inl h1); have q2_ := Option.some.inj h2; omega))
                    have SK_ := hide ((unhide SK).butB (GrownBut.of FG) (fun q h1 h2 => by have q1_ := unhide NS q (.inr h1); have q2_ := Option.some.inj h2; omega))
                    have BB_ : Hid (Below w.heap.size w wsy3) := F_.below loY (unhide BB)
                    clear F_ FG A R S X Y OXM RS OY S1 SK BB ON N; have A := A_; clear A_; have R := R_; clear R_; have S := S_; clear S_; have X := X_; clear X_; have Y := Y_; clear Y_; have OXM := OXM_; clear OXM_; have RS := RS_; clear RS_; have OY := OY_; clear OY_; have S1 := S1_; clear S1_; have SK := SK_; clear SK_; have BB := BB_; clear BB_
                    go_wp2
                    clear EU
                    go_roundw
                    case rel => rw [unhide HREL]; exact ⟨k + 1, ⟨z, .slice amN z.mails.length cmN, .slice atN z.tombs.length ctN⟩, by omega, by go_num, unhide ZOK, unhide YES, unhide A, unhide R, unhide S, unhide X, unhide Y, unhide OY, unhide S1, unhide SK, unhide OXM, unhide RS, unhide BB⟩
                    case measure => simp [intOf]; omega
            · obtain rfl : k = nx := by omega
              have A := hide oA; have R := hide oR; have S := hide oS; have X := hide oX; have Y := hide oY; have OY := hide ox; have S1 := hide o1; have SK := hide ok_; have OXM := hide om; have RS := hide ors; have BB := hide hbel; clear oA oR oS oX oY ox o1 ok_ om ors hbel
              have DN : Hid (addAll zY (inSet set zX) = some xb) := by show _ = _; rw [unhide HALL, List.drop_of_length_le (by have := unhide HNX; omega)]; rfl
              have FB := hide (fit_ok (unhide HXK)); clear hlt; have Ac0_6 := (unhide A).cell 0 rfl; have Ac1_6 := (unhide A).cell 1 rfl; have Yc0_7 := (unhide Y).cell 0 rfl; have Yc1_7 := (unhide Y).cell 1 rfl; have Yc2_7 := (unhide Y).cell 2 rfl; have Yc3_7 := (unhide Y).cell 3 rfl; have Yc4_7 := (unhide Y).cell 4 rfl; have Yc5_7 := (unhide Y).cell 5 rfl; have Yc6_7 := (unhide Y).cell 6 rfl; have Xc0_8 := (unhide X).cell 0 rfl; have Xc1_8 := (unhide X).cell 1 rfl; have Xc2_8 := (unhide X).cell 2 rfl; have Xc3_8 := (unhide X).cell 3 rfl; have Xc4_8 := (unhide X).cell 4 rfl; have Xc5_8 := (unhide X).cell 5 rfl; have Xc6_8 := (unhide X).cell 6 rfl; go_wp2_with fail; clear Ac0_6 Ac1_6 Yc0_7 Yc1_7 Yc2_7 Yc3_7 Yc4_7 Yc5_7 Yc6_7 Xc0_8 Xc1_8 Xc2_8 Xc3_8 Xc4_8 Xc5_8 Xc6_8
              have LO9 : w.heap.size ≤ wo.heap.size := (unhide BB).size
              refine (spec_PutBox_any s xb _ _ _ _ _ _ (unhide FT) (unhide FB) ⟨L, unhide HL, unhide S1⟩ (unhide OY)).mono ?_
              rintro e wsx1 ⟨v9, rfl, o9, hb⟩
              obtain ⟨J, hJ, oJ⟩ := o9
              obtain ⟨a9, c9, rfl⟩ := g_shape oJ.row
              have OJ_ := hide (oJ.based LO9); have HJ := hide hJ; clear oJ hJ; replace A := hide ((unhide A).ups hb); replace R := hide ((unhide R).ups hb); replace S := hide ((unhide S).ups hb); replace X := hide ((unhide X).ups hb); replace Y := hide ((unhide Y).ups hb); replace OY := hide ((unhide OY).up hb); replace S1 := hide ((unhide S1).up hb); replace SK := hide ((unhide SK).up hb); replace OXM := hide ((unhide OXM).up hb); replace RS := hide ((unhide RS).up hb); have sz101 := hide (hb.size); replace BB := hide (below_y (unhide BB) hb); clear hb; have OJ := OJ_; clear OJ_
              have ANS : Hid (copyV s src set dst = (putSt s xb, 0)) := by show _ = _; rw [unhide CV, unhide BX, unhide BY]; simp only; rw [unhide DN]
              have EJ : J.length = s.boxes.length := by have h9 := congrArg List.length (unhide HJ); rw [List.length_map, putX_len] at h9; exact h9
              rw [EJ] at OJ ⊢
              clear EJ; have Rf0 := (unhide R).frozen 0; have Rf1 := (unhide R).frozen 1; have Re0 := (unhide R).cell 0 rfl; have Re1 := (unhide R).cell 1 rfl; have F := hide (fill2 (unhide R) (.slice a9 s.boxes.length c9) (.int .i64 s.valid))
              obtain ⟨U, hU⟩ : ∃ U, U = ((wsx1.setCell ⟨ws1.heap.size, 0, none⟩ (.slice a9 s.boxes.length c9)).setCell ⟨ws1.heap.size, 1, none⟩ (.int .i64 s.valid)) := ⟨_, rfl⟩
              have F9 := unhide F
              rw [← hU] at F9
              have EU := hU.symm; clear F hU; have v0 := F9.obj.cell 0 rfl; have v1 := F9.obj.cell 1 rfl; have F := hide F9; clear F9
              go_wp2_with (refine bodyPost_ret (by simp [results, Try.results24, go_sem, v0, v1]; try rfl) rfl ?_)
              clear EU; have F := unhide F
              rw [unhide ANS]
              exact ⟨_, rfl, ⟨J, unhide HJ, ⟨F.row (by decide) (unhide OJ).row, fun x hx => ⟨F.row (by decide) ((unhide OJ).each x hx).1, F.row (by decide) ((unhide OJ).each x hx).2⟩⟩⟩, F.below loR (unhide BB)⟩
end Go.Proofs.Ytfemplekibpfoac
