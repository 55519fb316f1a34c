/- The specification's BoxAt and l09Copy. Made by gen_stores.py. -/
import Derived.Test.YtecognggnbopaacStoreOkS
import Derived.Test.YtecognggnbopaacBoxCopyS
import Derived.Test.YtecognggnbopaacRegA
namespace Go.Proofs.Ytecognggnbopaac
open Go.RowKit
open Plain
set_option linter.unusedVariables false
set_option linter.unusedSimpArgs false

set_option maxHeartbeats 8000000 in
set_option maxRecDepth 100000 in
theorem spec_BoxAt_any (s : Sx) (name : ByteArray) (v : Value) (B : Nat) (w : World) (hf : FitSt s) (h : ReadSt B w v s.boxes) :
    Calls Try.prog 24 #[.agg #[v, .int .i64 s.valid], .string name] w fun e w' => ∃ m t, e = .returned (.tuple #[boxV (atV s name).1 m t, .bool (atV s name).2]) ∧ OwnBx w.heap.size w' m t (atV s name).1 ∧ Below w.heap.size w w' := by
  obtain ⟨L, hL, h⟩ := h
  obtain ⟨a1, c1, rfl⟩ := g_shape h.row
  obtain ⟨n, hn⟩ : ∃ n, n = s.boxes.length := ⟨_, rfl⟩
  have hn1 : L.length = n := by rw [hn, ← hL, List.length_map]
  have hnl := hf.len
  rw [← hn] at hnl
  have S1 := hide h
  rw [hn1] at S1 ⊢
  have FE := hide hf.each
  have HL := hide hL
  have HN := hide hn
  have HN1 := hide hn1
  clear h hL hn hn1 hf
  have BB := hide (Below.refl w.heap.size w)
  obtain ⟨wa1, hA⟩ : ∃ X, X = w.alloc (.cells ([.slice a1 n c1, .int .i64 s.valid] : List Value).toArray 28) := ⟨_, rfl⟩
  have Ax : HasObj wa1 w.heap.size 28 [.slice a1 n c1, .int .i64 s.valid] := by rw [hA]; exact HasObj.new _ _ _
  have hbn : Below w.heap.size w wa1 := by rw [hA]; exact (Below.refl _ _).alloc (Nat.le_refl _) _
  have loA : w.heap.size ≤ w.heap.size := (unhide BB).size
  have EA := hA.symm
  clear hA
  have S1_ := hide ((unhide S1).up hbn)
  clear S1
  have S1 := S1_
  clear S1_
  have sz1 := hide (hbn.size)
  have BB_ := hide (below_y (unhide BB) hbn)
  clear BB
  have BB := BB_
  clear BB_
  clear hbn
  have A := hide Ax
  clear Ax
  obtain ⟨wa2, hR⟩ : ∃ X, X = wa1.alloc (.cells ([.string ⟨#[]⟩, .int .i64 0, .int .i64 0, .int .i64 0, .slice none 0 0, .slice none 0 0, .int .i64 0] : List Value).toArray 53) := ⟨_, rfl⟩
  have Rx : HasObj wa2 wa1.heap.size 53 [.string ⟨#[]⟩, .int .i64 0, .int .i64 0, .int .i64 0, .slice none 0 0, .slice none 0 0, .int .i64 0] := by rw [hR]; exact HasObj.new _ _ _
  have hbn : Below wa1.heap.size wa1 wa2 := by rw [hR]; exact (Below.refl _ _).alloc (Nat.le_refl _) _
  have neAR : w.heap.size ≠ wa1.heap.size := Nat.ne_of_lt (unhide A).lt
  have loR : w.heap.size ≤ wa1.heap.size := (unhide BB).size
  have ER := hR.symm
  clear hR
  have A_ := hide ((unhide A).ups hbn)
  clear A
  have A := A_
  clear A_
  have S1_ := hide ((unhide S1).up hbn)
  clear S1
  have S1 := S1_
  clear S1_
  have sz2 := hide (hbn.size)
  have BB_ := hide (below_y (unhide BB) hbn)
  clear BB
  have BB := BB_
  clear BB_
  clear hbn
  have R := hide Rx
  clear Rx
  have Ac0_1 := (unhide A).cell 0 rfl
  have Ac1_1 := (unhide A).cell 1 rfl
  go_enter Try.func24, Try.ntmps24
  go_wp2
  clear Ac0_1 Ac1_1 EA ER
  go_loopw [6] (fun i wr => ∃ k : Nat, k ≤ n ∧ i = .int .i64 k ∧ (∀ y ∈ s.boxes.take k, sameN name y = false) ∧ HasObj wr (wa1.heap.size) 53 [.string ⟨#[]⟩, .int .i64 0, .int .i64 0, .int .i64 0, .slice none 0 0, .slice none 0 0, .int .i64 0] ∧ HasObj wr (w.heap.size) 28 [.slice a1 n c1, .int .i64 s.valid] ∧ OwnBs B wr (.slice a1 n c1) L ∧ Below w.heap.size w wr) (fun i _ => n - (intOf i).toNat)
  case atStart => exact ⟨0, Nat.zero_le _, rfl, by simp, unhide R, unhide A, unhide S1, unhide BB⟩
  clear S1 BB A R
  case round =>
    obtain ⟨k, hk, rfl, hno, oR, oA, o1, hbel⟩ := hrel
    obtain ⟨wo, hwo⟩ : ∃ wo, wo = wr := ⟨_, rfl⟩
    subst hwo
    have HNO := hide hno
    clear hno
    by_cases hlt : k < n
    · have hkl : k < L.length := by rw [unhide HN1]; exact hlt
      have hx : L[k]? = some L[k] := List.getElem?_eq_getElem hkl
      have hbx : s.boxes[k]? = some L[k].b := by rw [← unhide HL, List.getElem?_map, hx]; rfl
      have hmx := List.getElem_mem hkl
      have hfx := unhide FE _ (List.mem_of_getElem? hbx)
      obtain ⟨g1, q1, e3, _, _, _⟩ := br_read o1.row hx
      have e5 := (Value.slice.inj e3).1
      clear e3
      subst e5
      generalize L[k] = x at *
      obtain ⟨b, m, t⟩ := x
      simp only at hbx hfx
      obtain ⟨am, cm, ee1⟩ := g_shape (o1.each _ hmx).1
      obtain ⟨at1, ct1, ee2⟩ := g_shape (o1.each _ hmx).2
      simp only at ee1 ee2
      subst ee1 ee2
      have A := hide oA
      have R := hide oR
      clear oA oR
      have S1 := hide o1
      have BB := hide hbel
      have X1 := hide hx
      have XB := hide hbx
      have M1 := hide hmx
      have FX := hide hfx
      clear o1 hbel hx hbx hmx hfx
      have i1 : (0 : Int) ≤ (k : Int) := by omega
      have i2 : (k : Int) < (n : Int) := by omega
      have Ac0_2 := (unhide A).cell 0 rfl
      have Ac1_2 := (unhide A).cell 1 rfl
      have ec0_3 := (br_of (unhide S1).row (unhide X1)).1
      simp only at ec0_3
      have ec1_3 := (br_of (unhide S1).row (unhide X1)).2.1
      simp only at ec1_3
      have ec2_3 := (br_of (unhide S1).row (unhide X1)).2.2.1
      simp only at ec2_3
      have ec3_3 := (br_of (unhide S1).row (unhide X1)).2.2.2.1
      simp only at ec3_3
      have ec4_3 := (br_of (unhide S1).row (unhide X1)).2.2.2.2.1
      simp only at ec4_3
      have ec5_3 := (br_of (unhide S1).row (unhide X1)).2.2.2.2.2.1
      simp only at ec5_3
      have ec6_3 := (br_of (unhide S1).row (unhide X1)).2.2.2.2.2.2
      simp only at ec6_3
      cases hd : (b.name.toList == name.toList) with
      | false =>
        have NX := hide (none_more (unhide XB) hd (unhide HNO))
        go_wp2
        go_roundw
        case rel => exact ⟨k + 1, by omega, by go_num, unhide NX, unhide R, unhide A, unhide S1, unhide BB⟩
        case measure => simp [intOf]; omega
      | true =>
        have ANS : Hid (atV s name = (b, true)) := atV_some (boxAt_first (unhide XB) hd (unhide HNO))
        have hbel9 : w.heap.size ≤ wo.heap.size := (unhide BB).size
        go_wp2_with fail
        clear Ac0_2 Ac1_2 ec0_3 ec1_3 ec2_3 ec3_3 ec4_3 ec5_3 ec6_3
        refine (l08Copy_any b _ _ B _ (Nat.le_trans (unhide FX).mails (by decide)) (Nat.le_trans (unhide FX).tombs (by decide)) ((unhide S1).each _ (unhide M1))).mono ?_
        rintro e way1 ⟨mC, tC, rfl, oC, hb⟩
        obtain ⟨amC, cmC, rfl⟩ := g_shape oC.1
        obtain ⟨atC, ctC, rfl⟩ := g_shape oC.2
        have NC := hide (OwnBx.base oC)
        have A_ := hide ((unhide A).ups hb)
        clear A
        have A := A_
        clear A_
        have R_ := hide ((unhide R).ups hb)
        clear R
        have R := R_
        clear R_
        have S1_ := hide ((unhide S1).up hb)
        clear S1
        have S1 := S1_
        clear S1_
        have sz101 := hide (hb.size)
        have BB_ := hide (below_y (unhide BB) hb)
        clear BB
        have BB := BB_
        clear BB_
        clear hb
        have OC := hide oC
        clear oC
        clear hd
        have Rf0 := (unhide R).frozen 0
        have Rf1 := (unhide R).frozen 1
        have Rf2 := (unhide R).frozen 2
        have Rf3 := (unhide R).frozen 3
        have Rf4 := (unhide R).frozen 4
        have Rf5 := (unhide R).frozen 5
        have Rf6 := (unhide R).frozen 6
        have Re0 := (unhide R).cell 0 rfl
        have Re1 := (unhide R).cell 1 rfl
        have Re2 := (unhide R).cell 2 rfl
        have Re3 := (unhide R).cell 3 rfl
        have Re4 := (unhide R).cell 4 rfl
        have Re5 := (unhide R).cell 5 rfl
        have Re6 := (unhide R).cell 6 rfl
        have F := hide (fill7 (unhide R) (.string b.name) (.int .i64 b.valid) (.int .i64 b.next) (.int .i64 b.mod) (.slice amC b.mails.length cmC) (.slice atC b.tombs.length ctC) (.int .i64 b.hor))
        obtain ⟨U, hU⟩ : ∃ U, U = (((((((way1.setCell ⟨wa1.heap.size, 0, none⟩ (.string b.name)).setCell ⟨wa1.heap.size, 1, none⟩ (.int .i64 b.valid)).setCell ⟨wa1.heap.size, 2, none⟩ (.int .i64 b.next)).setCell ⟨wa1.heap.size, 3, none⟩ (.int .i64 b.mod)).setCell ⟨wa1.heap.size, 4, none⟩ (.slice amC b.mails.length cmC)).setCell ⟨wa1.heap.size, 5, none⟩ (.slice atC b.tombs.length ctC)).setCell ⟨wa1.heap.size, 6, none⟩ (.int .i64 b.hor)) := ⟨_, rfl⟩
        have F9 := unhide F
        rw [← hU] at F9
        have EU := hU.symm
        clear F hU
        have v0 := F9.obj.cell 0 rfl
        have v1 := F9.obj.cell 1 rfl
        have v2 := F9.obj.cell 2 rfl
        have v3 := F9.obj.cell 3 rfl
        have v4 := F9.obj.cell 4 rfl
        have v5 := F9.obj.cell 5 rfl
        have v6 := F9.obj.cell 6 rfl
        have F := hide F9
        clear F9
        go_wp2_with (refine bodyPost_ret (by simp [results, Try.results24, go_sem, v0, v1, v2, v3, v4, v5, v6]; try rfl) rfl ?_)
        clear EU
        have F := unhide F
        rw [unhide ANS]
        have OC9 := unhide OC
        exact ⟨_, _, rfl, OwnBx.based ⟨F.row (by decide) OC9.1, F.row (by decide) OC9.2⟩ hbel9, F.below loR (unhide BB)⟩
    · obtain rfl : k = n := by omega
      have A := hide oA
      have R := hide oR
      have BB := hide hbel
      clear oA oR o1 hbel hlt hk
      have ANS : Hid (atV s name = (bx0, false)) := atV_none (boxAt_none (by have h9 := unhide HNO; rw [List.take_of_length_le (by have := unhide HN; omega)] at h9; exact h9))
      have Ac0_2 := (unhide A).cell 0 rfl
      have Ac1_2 := (unhide A).cell 1 rfl
      have Rf0 := (unhide R).frozen 0
      have Rf1 := (unhide R).frozen 1
      have Rf2 := (unhide R).frozen 2
      have Rf3 := (unhide R).frozen 3
      have Rf4 := (unhide R).frozen 4
      have Rf5 := (unhide R).frozen 5
      have Rf6 := (unhide R).frozen 6
      have Re0 := (unhide R).cell 0 rfl
      have Re1 := (unhide R).cell 1 rfl
      have Re2 := (unhide R).cell 2 rfl
      have Re3 := (unhide R).cell 3 rfl
      have Re4 := (unhide R).cell 4 rfl
      have Re5 := (unhide R).cell 5 rfl
      have Re6 := (unhide R).cell 6 rfl
      have F := hide (fill7 (unhide R) (.string ⟨#[]⟩) (.int .i64 0) (.int .i64 0) (.int .i64 0) (.slice none 0 0) (.slice none 0 0) (.int .i64 0))
      obtain ⟨U, hU⟩ : ∃ U, U = (((((((wo.setCell ⟨wa1.heap.size, 0, none⟩ (.string ⟨#[]⟩)).setCell ⟨wa1.heap.size, 1, none⟩ (.int .i64 0)).setCell ⟨wa1.heap.size, 2, none⟩ (.int .i64 0)).setCell ⟨wa1.heap.size, 3, none⟩ (.int .i64 0)).setCell ⟨wa1.heap.size, 4, none⟩ (.slice none 0 0)).setCell ⟨wa1.heap.size, 5, none⟩ (.slice none 0 0)).setCell ⟨wa1.heap.size, 6, none⟩ (.int .i64 0)) := ⟨_, rfl⟩
      have F9 := unhide F
      rw [← hU] at F9
      have EU := hU.symm
      clear F hU
      have v0 := F9.obj.cell 0 rfl
      have v1 := F9.obj.cell 1 rfl
      have v2 := F9.obj.cell 2 rfl
      have v3 := F9.obj.cell 3 rfl
      have v4 := F9.obj.cell 4 rfl
      have v5 := F9.obj.cell 5 rfl
      have v6 := F9.obj.cell 6 rfl
      have F := hide F9
      clear F9
      go_wp2_with (refine bodyPost_ret (by simp [results, Try.results24, go_sem, v0, v1, v2, v3, v4, v5, v6]; try rfl) rfl ?_)
      clear EU
      have F := unhide F
      rw [unhide ANS]
      exact ⟨.slice none 0 0, .slice none 0 0, rfl, ⟨World.ownsRow_nil _ _ _ _, World.ownsRow_nil _ _ _ _⟩, F.below loR (unhide BB)⟩
set_option maxHeartbeats 8000000 in
set_option maxRecDepth 100000 in
theorem l09Copy_any (s : Sx) (v : Value) (B : Nat) (w : World) (hf : FitSt s) (h : ReadSt B w v s.boxes) :
    Calls Try.prog 21 #[.agg #[v, .int .i64 s.valid]] w fun e w' => ∃ v', e = .returned (.agg #[v', .int .i64 s.valid]) ∧ ReadSt w.heap.size w' v' s.boxes ∧ Below w.heap.size w w' := by
  obtain ⟨iX, hX, hX0, hX1, hX2⟩ := info_parts Try.infoBox
  obtain ⟨L, hL, h⟩ := h
  obtain ⟨a1, c1, rfl⟩ := g_shape h.row
  obtain ⟨n, hn⟩ : ∃ n, n = s.boxes.length := ⟨_, rfl⟩
  have hn1 : L.length = n := by rw [hn, ← hL, List.length_map]
  have hnl := hf.len
  rw [← hn] at hnl
  have S1 := hide h
  rw [hn1] at S1 ⊢
  have FE := hide hf.each
  have HL := hide hL
  have HN := hide hn
  have HN1 := hide hn1
  clear h hL hn hn1 hf
  have LTS : Hid (∀ g, Value.ownBlock (.slice a1 n c1) = some g → g < w.heap.size) := fun g hg => (World.ownsRow.lt (unhide S1).row g hg).2
  have OR1 : Hid (OwnBr B w (.slice a1 n c1) L) := (unhide S1).row
  have EB1 : Hid (EachB B w L) := (unhide S1).each
  clear S1
  have BB := hide (Below.refl w.heap.size w)
  obtain ⟨wc1, hA⟩ : ∃ X, X = w.alloc (.cells ([.slice a1 n c1, .int .i64 s.valid] : List Value).toArray 28) := ⟨_, rfl⟩
  have Ax : HasObj wc1 w.heap.size 28 [.slice a1 n c1, .int .i64 s.valid] := by rw [hA]; exact HasObj.new _ _ _
  have hbn : Below w.heap.size w wc1 := by rw [hA]; exact (Below.refl _ _).alloc (Nat.le_refl _) _
  have loA : w.heap.size ≤ w.heap.size := (unhide BB).size
  have EA := hA.symm
  clear hA
  have OR1_ := hide ((unhide OR1).up hbn)
  clear OR1
  have OR1 := OR1_
  clear OR1_
  have EB1_ := hide ((unhide EB1).up hbn)
  clear EB1
  have EB1 := EB1_
  clear EB1_
  have sz1 := hide (hbn.size)
  have BB_ := hide (below_y (unhide BB) hbn)
  clear BB
  have BB := BB_
  clear BB_
  clear hbn
  have A := hide Ax
  clear Ax
  obtain ⟨wc2, hR⟩ : ∃ X, X = wc1.alloc (.cells ([.slice none 0 0, .int .i64 0] : List Value).toArray 28) := ⟨_, rfl⟩
  have Rx : HasObj wc2 wc1.heap.size 28 [.slice none 0 0, .int .i64 0] := by rw [hR]; exact HasObj.new _ _ _
  have hbn : Below wc1.heap.size wc1 wc2 := by rw [hR]; exact (Below.refl _ _).alloc (Nat.le_refl _) _
  have neAR : w.heap.size ≠ wc1.heap.size := Nat.ne_of_lt (unhide A).lt
  have loR : w.heap.size ≤ wc1.heap.size := (unhide BB).size
  have ER := hR.symm
  clear hR
  have A_ := hide ((unhide A).ups hbn)
  clear A
  have A := A_
  clear A_
  have OR1_ := hide ((unhide OR1).up hbn)
  clear OR1
  have OR1 := OR1_
  clear OR1_
  have EB1_ := hide ((unhide EB1).up hbn)
  clear EB1
  have EB1 := EB1_
  clear EB1_
  have sz2 := hide (hbn.size)
  have BB_ := hide (below_y (unhide BB) hbn)
  clear BB
  have BB := BB_
  clear BB_
  clear hbn
  have R := hide Rx
  clear Rx
  have Ac0_1 := (unhide A).cell 0 rfl
  have Ac1_1 := (unhide A).cell 1 rfl
  obtain ⟨wc3, hO⟩ : ∃ X, X = wc2.alloc (.cells ([.slice none 0 0, .int .i64 s.valid] : List Value).toArray 28) := ⟨_, rfl⟩
  have Ox : HasObj wc3 wc2.heap.size 28 [.slice none 0 0, .int .i64 s.valid] := by rw [hO]; exact HasObj.new _ _ _
  have hbn : Below wc2.heap.size wc2 wc3 := by rw [hO]; exact (Below.refl _ _).alloc (Nat.le_refl _) _
  have neAO : w.heap.size ≠ wc2.heap.size := Nat.ne_of_lt (unhide A).lt
  have neRO : wc1.heap.size ≠ wc2.heap.size := Nat.ne_of_lt (unhide R).lt
  have loO : w.heap.size ≤ wc2.heap.size := (unhide BB).size
  have EO := hO.symm
  clear hO
  have A_ := hide ((unhide A).ups hbn)
  clear A
  have A := A_
  clear A_
  have R_ := hide ((unhide R).ups hbn)
  clear R
  have R := R_
  clear R_
  have OR1_ := hide ((unhide OR1).up hbn)
  clear OR1
  have OR1 := OR1_
  clear OR1_
  have EB1_ := hide ((unhide EB1).up hbn)
  clear EB1
  have EB1 := EB1_
  clear EB1_
  have sz3 := hide (hbn.size)
  have BB_ := hide (below_y (unhide BB) hbn)
  clear BB
  have BB := BB_
  clear BB_
  clear hbn
  have O := hide Ox
  clear Ox
  go_enter Try.func21, Try.ntmps21
  go_wp2
  clear Ac0_1 Ac1_1 EA ER EO
  go_loopw [4] (fun i wr => ∃ (k : Nat) (L2 : List Lb) (a2 : Option Addr) (c2 : Nat), k ≤ n ∧ i = .int .i64 k ∧ L2.map (·.b) = s.boxes.take k ∧ HasObj wr (w.heap.size) 28 [.slice a1 n c1, .int .i64 s.valid] ∧ HasObj wr (wc1.heap.size) 28 [.slice none 0 0, .int .i64 0] ∧ HasObj wr (wc2.heap.size) 28 [.slice a2 L2.length c2, .int .i64 s.valid] ∧ OwnBr B wr (.slice a1 n c1) L ∧ EachB B wr L ∧ OwnBr w.heap.size wr (.slice a2 L2.length c2) L2 ∧ EachB w.heap.size wr L2 ∧ Below w.heap.size w wr) (fun i _ => n - (intOf i).toNat)
  case atStart => exact ⟨0, [], none, 0, Nat.zero_le _, rfl, by simp, unhide A, unhide R, unhide O, unhide OR1, unhide EB1, World.ownsRow_nil _ _ _ _, EachB.nil _ _, unhide BB⟩
  clear OR1 EB1 BB A R O
  case round =>
    obtain ⟨k, L2, a2, c2, hk, rfl, hL2, oA, oR, oO, o1, oe, o2, oe2, hbel⟩ := hrel
    obtain ⟨wo, hwo⟩ : ∃ wo, wo = wr := ⟨_, rfl⟩
    subst hwo
    have HL2 := hide hL2
    clear hL2
    by_cases hlt : k < n
    · have hkl : k < L.length := by rw [unhide HN1]; exact hlt
      have hx : L[k]? = some L[k] := List.getElem?_eq_getElem hkl
      have hbx : s.boxes[k]? = some L[k].b := by rw [← unhide HL, List.getElem?_map, hx]; rfl
      have hmx := List.getElem_mem hkl
      have hfx := unhide FE _ (List.mem_of_getElem? hbx)
      obtain ⟨g1, q1, e3, _, _, _⟩ := br_read o1 hx
      have e5 := (Value.slice.inj e3).1
      clear e3
      subst e5
      generalize L[k] = x at *
      obtain ⟨b, m, t⟩ := x
      simp only at hbx hfx
      obtain ⟨am, cm, ee1⟩ := g_shape (oe _ hmx).1
      obtain ⟨at1, ct1, ee2⟩ := g_shape (oe _ hmx).2
      simp only at ee1 ee2
      subst ee1 ee2
      have A := hide oA
      have R := hide oR
      have O := hide oO
      have OR1 := hide o1
      have EB1 := hide oe
      have OR2 := hide o2
      have EB2 := hide oe2
      have BB := hide hbel
      have X1 := hide hx
      have XB := hide hbx
      have M1 := hide hmx
      have FX := hide hfx
      have hlo9 : w.heap.size ≤ wo.heap.size := hbel.size
      clear oA oR oO o1 oe o2 oe2 hbel hx hbx hmx hfx
      have i1 : (0 : Int) ≤ (k : Int) := by omega
      have i2 : (k : Int) < (n : Int) := by omega
      have LK : L2.length = k := by have h9 := congrArg List.length (unhide HL2); rw [List.length_map, List.length_take, ← unhide HN] at h9; omega
      have HLK := hide LK
      clear LK
      have Ac0_2 := (unhide A).cell 0 rfl
      have Ac1_2 := (unhide A).cell 1 rfl
      have Oc0_3 := (unhide O).cell 0 rfl
      have Oc1_3 := (unhide O).cell 1 rfl
      go_wp2
      clear Ac0_2 Ac1_2 Oc0_3 Oc1_3
      refine lateBegin (S := fun w' => w'.cell? ⟨w.heap.size, 0, none⟩ = some (.slice (some ⟨g1, 0, none⟩) n c1) ∧ w'.cell? ⟨wc2.heap.size, 0, none⟩ = some (.slice a2 L2.length c2) ∧ w'.cell? ⟨g1, k * 7, none⟩ = some (.string b.name) ∧ w'.cell? ⟨g1, k * 7 + 1, none⟩ = some (.int .i64 b.valid) ∧ w'.cell? ⟨g1, k * 7 + 2, none⟩ = some (.int .i64 b.next) ∧ w'.cell? ⟨g1, k * 7 + 3, none⟩ = some (.int .i64 b.mod) ∧ w'.cell? ⟨g1, k * 7 + 4, none⟩ = some (.slice am b.mails.length cm) ∧ w'.cell? ⟨g1, k * 7 + 5, none⟩ = some (.slice at1 b.tombs.length ct1) ∧ w'.cell? ⟨g1, k * 7 + 6, none⟩ = some (.int .i64 b.hor)) 11 (by kernel_rfl) (⟨(unhide A).cell 0 rfl, (unhide O).cell 0 rfl, (br_of (unhide OR1) (unhide X1)).1, (br_of (unhide OR1) (unhide X1)).2.1, (br_of (unhide OR1) (unhide X1)).2.2.1, (br_of (unhide OR1) (unhide X1)).2.2.2.1, (br_of (unhide OR1) (unhide X1)).2.2.2.2.1, (br_of (unhide OR1) (unhide X1)).2.2.2.2.2.1, (br_of (unhide OR1) (unhide X1)).2.2.2.2.2.2⟩) (fun hHeld => ?_)
      have A_ := hide ((unhide A).drew)
      clear A
      have A := A_
      clear A_
      have R_ := hide ((unhide R).drew)
      clear R
      have R := R_
      clear R_
      have O_ := hide ((unhide O).drew)
      clear O
      have O := O_
      clear O_
      have OR1_ := hide ((unhide OR1).drew)
      clear OR1
      have OR1 := OR1_
      clear OR1_
      have EB1_ := hide ((unhide EB1).drew)
      clear EB1
      have EB1 := EB1_
      clear EB1_
      have OR2_ := hide ((unhide OR2).drew)
      clear OR2
      have OR2 := OR2_
      clear OR2_
      have EB2_ := hide ((unhide EB2).drew)
      clear EB2
      have EB2 := EB2_
      clear EB2_
      have BB_ := hide ((unhide BB).drew)
      clear BB
      have BB := BB_
      clear BB_
      have sz101 : Hid (wo.heap.size ≤ wo.drew.heap.size) := Nat.le_refl _
      refine lateTake 0 (some 15) ?_ rfl (by kernel_rfl) (by kernel_rfl) (by kernel_rfl) (by kernel_rfl) rfl (fun _ _ _ h => h) (by rfl) (by assumption) ?_ ?_
      rotate_left
      · (intro w hSw; (try dsimp only at hSw); go_simp <;> with_reducible rfl)
      simp only [Act.put, List.setIfInBounds_toArray, List.set_cons_zero, List.set_cons_succ]
      refine lateTake 1 (some 16) ?_ rfl (by kernel_rfl) (by kernel_rfl) (by kernel_rfl) (by kernel_rfl) rfl (fun _ _ _ h => h) (by rfl) (by assumption) ?_ ?_
      rotate_left
      · (intro w hSw; (try dsimp only at hSw); go_simp <;> with_reducible rfl)
      simp only [Act.put, List.setIfInBounds_toArray, List.set_cons_zero, List.set_cons_succ]
      refine lateTake 2 (some 17) ?_ rfl (by kernel_rfl) (by kernel_rfl) (by kernel_rfl) (by kernel_rfl) rfl (fun _ _ _ h => h) (by rfl) (by assumption) ?_ ?_
      rotate_left
      · (intro w hSw; (try dsimp only at hSw); go_simp <;> with_reducible rfl)
      simp only [Act.put, List.setIfInBounds_toArray, List.set_cons_zero, List.set_cons_succ]
      refine lateTake 3 (some 18) ?_ rfl (by kernel_rfl) (by kernel_rfl) (by kernel_rfl) (by kernel_rfl) rfl (fun _ _ _ h => h) (by rfl) (by assumption) ?_ ?_
      rotate_left
      · (intro w hSw; (try dsimp only at hSw); go_simp <;> with_reducible rfl)
      simp only [Act.put, List.setIfInBounds_toArray, List.set_cons_zero, List.set_cons_succ]
      refine lateTake 4 (some 19) ?_ rfl (by kernel_rfl) (by kernel_rfl) (by kernel_rfl) (by kernel_rfl) rfl (fun _ _ _ h => h) (by rfl) (by assumption) ?_ ?_
      rotate_left
      · (intro w hSw; (try dsimp only at hSw); go_simp <;> with_reducible rfl)
      simp only [Act.put, List.setIfInBounds_toArray, List.set_cons_zero, List.set_cons_succ]
      refine lateTake 5 (some 20) ?_ rfl (by kernel_rfl) (by kernel_rfl) (by kernel_rfl) (by kernel_rfl) rfl (fun _ _ _ h => h) (by rfl) (by assumption) ?_ ?_
      rotate_left
      · (intro w hSw; (try dsimp only at hSw); go_simp <;> with_reducible rfl)
      simp only [Act.put, List.setIfInBounds_toArray, List.set_cons_zero, List.set_cons_succ]
      refine lateTake 6 (some 21) ?_ rfl (by kernel_rfl) (by kernel_rfl) (by kernel_rfl) (by kernel_rfl) rfl (fun _ _ _ h => h) (by rfl) (by assumption) ?_ ?_
      rotate_left
      · (intro w hSw; (try dsimp only at hSw); go_simp <;> with_reducible rfl)
      simp only [Act.put, List.setIfInBounds_toArray, List.set_cons_zero, List.set_cons_succ]
      refine lateStep 7 (by kernel_rfl) rfl (by rfl) (fun K hK => ?_)
      go_simp
      refine (l08Copy_any b _ _ B _ (Nat.le_trans (unhide FX).mails (by decide)) (Nat.le_trans (unhide FX).tombs (by decide)) ((unhide EB1) _ (unhide M1))).mono ?_
      rintro e wcr1 ⟨mC, tC, rfl, oC, hb⟩
      obtain ⟨amC, cmC, rfl⟩ := g_shape oC.1
      obtain ⟨atC, ctC, rfl⟩ := g_shape oC.2
      have OC_ := hide (oC.based hlo9)
      clear oC
      have A_ := hide ((unhide A).ups hb)
      clear A
      have A := A_
      clear A_
      have R_ := hide ((unhide R).ups hb)
      clear R
      have R := R_
      clear R_
      have O_ := hide ((unhide O).ups hb)
      clear O
      have O := O_
      clear O_
      have OR1_ := hide ((unhide OR1).up hb)
      clear OR1
      have OR1 := OR1_
      clear OR1_
      have EB1_ := hide ((unhide EB1).up hb)
      clear EB1
      have EB1 := EB1_
      clear EB1_
      have OR2_ := hide ((unhide OR2).up hb)
      clear OR2
      have OR2 := OR2_
      clear OR2_
      have EB2_ := hide ((unhide EB2).up hb)
      clear EB2
      have EB2 := EB2_
      clear EB2_
      have sz102 := hide (hb.size)
      have BB_ := hide (below_y (unhide BB) hb)
      clear BB
      have BB := BB_
      clear BB_
      clear hb
      have OC := OC_
      clear OC_
      go_wp2_with fail
      refine hK.out _ _ (⟨(unhide A).cell 0 rfl, (unhide O).cell 0 rfl, (br_of (unhide OR1) (unhide X1)).1, (br_of (unhide OR1) (unhide X1)).2.1, (br_of (unhide OR1) (unhide X1)).2.2.1, (br_of (unhide OR1) (unhide X1)).2.2.2.1, (br_of (unhide OR1) (unhide X1)).2.2.2.2.1, (br_of (unhide OR1) (unhide X1)).2.2.2.2.2.1, (br_of (unhide OR1) (unhide X1)).2.2.2.2.2.2⟩) (fun hHeld2 => ?_)
      clear hK K hHeld
      have hHeld := hHeld2; clear hHeld2
      try simp only [Act.put, List.setIfInBounds_toArray, List.set_cons_zero, List.set_cons_succ]
      refine lateStep 8 (by kernel_rfl) rfl (by rfl) (fun K hK => ?_)
      go_simp
      have hA : Below wcr1.heap.size wcr1 (wcr1.alloc (.cells ((lbC (⟨b, .slice amC b.mails.length cmC, .slice atC b.tombs.length ctC⟩ : Lb)) : List Value).toArray 53)) := (Below.refl _ _).alloc (Nat.le_refl _) _
      have A_ := hide ((unhide A).ups hA)
      clear A
      have A := A_
      clear A_
      have R_ := hide ((unhide R).ups hA)
      clear R
      have R := R_
      clear R_
      have O_ := hide ((unhide O).ups hA)
      clear O
      have O := O_
      clear O_
      have OR1_ := hide ((unhide OR1).up hA)
      clear OR1
      have OR1 := OR1_
      clear OR1_
      have EB1_ := hide ((unhide EB1).up hA)
      clear EB1
      have EB1 := EB1_
      clear EB1_
      have OR2_ := hide ((unhide OR2).up hA)
      clear OR2
      have OR2 := OR2_
      clear OR2_
      have EB2_ := hide ((unhide EB2).up hA)
      clear EB2
      have EB2 := EB2_
      clear EB2_
      have OC_ := hide ((unhide OC).up hA)
      clear OC
      have OC := OC_
      clear OC_
      have sz103 := hide (hA.size)
      have BB_ := hide (below_y (unhide BB) hA)
      clear BB
      have BB := BB_
      clear BB_
      clear hA
      refine hK.out _ _ (⟨(unhide A).cell 0 rfl, (unhide O).cell 0 rfl, (br_of (unhide OR1) (unhide X1)).1, (br_of (unhide OR1) (unhide X1)).2.1, (br_of (unhide OR1) (unhide X1)).2.2.1, (br_of (unhide OR1) (unhide X1)).2.2.2.1, (br_of (unhide OR1) (unhide X1)).2.2.2.2.1, (br_of (unhide OR1) (unhide X1)).2.2.2.2.2.1, (br_of (unhide OR1) (unhide X1)).2.2.2.2.2.2⟩) (fun hHeld2 => ?_)
      clear hK K hHeld
      have hHeld := hHeld2; clear hHeld2
      try simp only [Act.put, List.setIfInBounds_toArray, List.set_cons_zero, List.set_cons_succ]
      have oa := unhide OR2
      have ldl := (unhide BB).size
      refine lateStep 9 (by kernel_rfl) rfl (by rfl) (fun K hK => ?_)
      refine wp_append_lies _ (.tmp 16) (.tmp 23) 26 rfl (w.heap.size) 53 iX _ 7 96 Try.underlying26 hX hX0 hX1 hX2 rfl (by decide) (.slice a2 L2.length c2) _ _ rfl oa ⟨wcr1.heap.size, 0, none⟩ 1 1 (lbC (⟨b, .slice amC b.mails.length cmC, .slice atC b.tombs.length ctC⟩ : Lb)) rfl rfl (newsC _ _) ?c2 (by decide) ?c3 ?c4 ?c5 (wcr1.heap.size + 1) (by simp) ?_
      case c2 => intro u hu; simp [lbC] at hu; rcases hu with rfl | rfl | rfl | rfl | rfl | rfl | rfl <;> rfl
      case c3 => unfold maxLen; have := unhide HLK; omega
      case c4 => have := unhide HLK; omega
      case c5 => have q1_ := (unhide BB).size; have sz101_ := unhide sz101; have sz102_ := unhide sz102; have sz103_ := unhide sz103; (try simp at q1_); (try simp); omega
      intro gcr2 capcr2 wcr2 hown hgr hat hlt_
      have A_ := hide ((unhide A).kept hgr (fun e => (unhide A).not_row (by decide) oa e.symm))
      have R_ := hide ((unhide R).kept hgr (fun e => (unhide R).not_row (by decide) oa e.symm))
      have O_ := hide ((unhide O).kept hgr (fun e => (unhide O).not_row (by decide) oa e.symm))
      have OR1_ : Hid (OwnBr B wcr2 (.slice (some ⟨g1, 0, none⟩) n c1) (L)) := g_aside (unhide OR1) hgr (fun x hx hx2 => by have q1_ := unhide LTS x hx2; have q2_ := (World.ownsRow.lt oa x hx).1; omega)
      have EB1_ : Hid (EachB B wcr2 (L)) := (unhide EB1).aside oa hgr (by decide) (by decide)
      have EB2_ : Hid (EachB w.heap.size wcr2 (L2)) := (unhide EB2).aside oa hgr (by decide) (by decide)
      have OC_ : Hid (OwnBx w.heap.size wcr2 (.slice amC b.mails.length cmC) (.slice atC b.tombs.length ctC) b) := ⟨g_aside (unhide OC).1 hgr (fun x hx => rows_apart oa (unhide OC).1 (by decide) x hx), g_aside (unhide OC).2 hgr (fun x hx => rows_apart oa (unhide OC).2 (by decide) x hx)⟩
      have OR2_ : Hid (OwnBr (w.heap.size) wcr2 (.slice (some ⟨gcr2, 0, none⟩) (L2.length + 1) capcr2) (L2 ++ [(⟨b, .slice amC b.mails.length cmC, .slice atC b.tombs.length ctC⟩ : Lb)])) := by exact OwnBr.snoc hown
      have BB_ : Hid (Below w.heap.size w wcr2) := (unhide BB).grown hgr (unhide BB).size (fun b hb => by have q2_ := (World.ownsRow.lt oa b hb).1; have sz101_ := unhide sz101; have sz102_ := unhide sz102; have sz103_ := unhide sz103; omega)
      have sz104 : Hid ((wcr1.alloc (.cells ((lbC (⟨b, .slice amC b.mails.length cmC, .slice atC b.tombs.length ctC⟩ : Lb)) : List Value).toArray 53)).heap.size ≤ wcr2.heap.size) := hgr.size
      clear A
      have A := A_
      clear A_
      clear R
      have R := R_
      clear R_
      clear O
      have O := O_
      clear O_
      clear OR1
      have OR1 := OR1_
      clear OR1_
      clear EB1
      have EB1 := EB1_
      clear EB1_
      clear OR2
      have OR2 := OR2_
      clear OR2_
      clear EB2
      have EB2 := EB2_
      clear EB2_
      clear OC
      have OC := OC_
      clear OC_
      clear BB
      have BB := BB_
      clear BB_
      clear hown hgr hat hlt_ oa ldl
      refine hK.out _ _ (⟨(unhide A).cell 0 rfl, (unhide O).cell 0 rfl, (br_of (unhide OR1) (unhide X1)).1, (br_of (unhide OR1) (unhide X1)).2.1, (br_of (unhide OR1) (unhide X1)).2.2.1, (br_of (unhide OR1) (unhide X1)).2.2.2.1, (br_of (unhide OR1) (unhide X1)).2.2.2.2.1, (br_of (unhide OR1) (unhide X1)).2.2.2.2.2.1, (br_of (unhide OR1) (unhide X1)).2.2.2.2.2.2⟩) (fun hHeld2 => ?_)
      clear hK K hHeld
      have hHeld := hHeld2; clear hHeld2
      try simp only [Act.put, List.setIfInBounds_toArray, List.set_cons_zero, List.set_cons_succ]
      refine lateStep 10 (by kernel_rfl) rfl (by rfl) (fun K hK => ?_)
      go_simp
      refine hK.out _ _ (⟨(unhide A).cell 0 rfl, (unhide O).cell 0 rfl, (br_of (unhide OR1) (unhide X1)).1, (br_of (unhide OR1) (unhide X1)).2.1, (br_of (unhide OR1) (unhide X1)).2.2.1, (br_of (unhide OR1) (unhide X1)).2.2.2.1, (br_of (unhide OR1) (unhide X1)).2.2.2.2.1, (br_of (unhide OR1) (unhide X1)).2.2.2.2.2.1, (br_of (unhide OR1) (unhide X1)).2.2.2.2.2.2⟩) (fun hHeld2 => ?_)
      clear hK K hHeld
      have hHeld := hHeld2; clear hHeld2
      try simp only [Act.put, List.setIfInBounds_toArray, List.set_cons_zero, List.set_cons_succ]
      have Ofz0_4 := (unhide O).frozen 0
      have Ocz0_4 := (unhide O).cell 0 rfl
      obtain ⟨wcr3, hst⟩ : ∃ X, X = wcr2.setCell ⟨wc2.heap.size, 0, none⟩ (.slice (some ⟨gcr2, 0, none⟩) (L2.length + 1) capcr2) := ⟨_, rfl⟩
      have OR1_ : Hid (OwnBr B wcr3 (.slice (some ⟨g1, 0, none⟩) n c1) (L)) := by show OwnBr _ _ _ _; rw [hst]; exact (unhide O).row (j := 0) (by decide) (unhide OR1) _
      have EB1_ : Hid (EachB B wcr3 (L)) := by show EachB _ _ _; rw [hst]; exact (unhide EB1).set (j := 0) (unhide O) (by decide) (by decide) _
      have OR2_ : Hid (OwnBr w.heap.size wcr3 (.slice (some ⟨gcr2, 0, none⟩) (L2.length + 1) capcr2) (L2 ++ [(⟨b, .slice amC b.mails.length cmC, .slice atC b.tombs.length ctC⟩ : Lb)])) := by show OwnBr _ _ _ _; rw [hst]; exact (unhide O).row (j := 0) (by decide) (unhide OR2) _
      have EB2_ : Hid (EachB w.heap.size wcr3 (L2)) := by show EachB _ _ _; rw [hst]; exact (unhide EB2).set (j := 0) (unhide O) (by decide) (by decide) _
      have OC_ : Hid (OwnBx w.heap.size wcr3 (.slice amC b.mails.length cmC) (.slice atC b.tombs.length ctC) b) := by show OwnBx _ _ _ _ _; rw [hst]; exact ⟨(unhide O).row (j := 0) (by decide) (unhide OC).1 _, (unhide O).row (j := 0) (by decide) (unhide OC).2 _⟩
      have A_ := hide ((unhide A).other (j := 0) neAO (.slice (some ⟨gcr2, 0, none⟩) (L2.length + 1) capcr2))
      rw [← hst] at A_
      have R_ := hide ((unhide R).other (j := 0) neRO (.slice (some ⟨gcr2, 0, none⟩) (L2.length + 1) capcr2))
      rw [← hst] at R_
      have O_ := hide ((unhide O).set 0 (.slice (some ⟨gcr2, 0, none⟩) (L2.length + 1) capcr2))
      rw [← hst] at O_
      have BB_ := hide ((unhide BB).setCell (p := ⟨wc2.heap.size, 0, none⟩) (show w.heap.size ≤ wc2.heap.size from loO) (.slice (some ⟨gcr2, 0, none⟩) (L2.length + 1) capcr2))
      rw [← hst] at BB_
      have sz105 : Hid (wcr2.heap.size ≤ wcr3.heap.size) := by show _ ≤ _; rw [hst]; simp
      clear OR1
      have OR1 := OR1_
      clear OR1_
      clear EB1
      have EB1 := EB1_
      clear EB1_
      clear OR2
      have OR2 := OR2_
      clear OR2_
      clear EB2
      have EB2 := EB2_
      clear EB2_
      clear OC
      have OC := OC_
      clear OC_
      clear A
      have A := A_
      clear A_
      clear R
      have R := R_
      clear R_
      clear O
      have O := O_
      clear O_
      clear BB
      have BB := BB_
      clear BB_
      have Est105 := hst.symm
      clear hst
      refine lateLast 11 (by decide) (by kernel_rfl) rfl (by rfl) (fun K hK => ?_)
      go_simp
      refine hK.out _ _ ?_
      clear hK K hHeld
      try simp only [Act.put, List.setIfInBounds_toArray, List.set_cons_zero, List.set_cons_succ]
      try rw [Est105]
      clear Ofz0_4 Ocz0_4 Est105
      refine lateDone (by kernel_rfl) ?_ _
      have e9 : L2.length + 1 = (L2 ++ [(⟨b, .slice amC b.mails.length cmC, .slice atC b.tombs.length ctC⟩ : Lb)]).length := by simp
      rw [e9] at O OR2
      clear e9
      have EB9 := hide (EachB.snoc (x := (⟨b, .slice amC b.mails.length cmC, .slice atC b.tombs.length ctC⟩ : Lb)) (unhide EB2) (unhide OC))
      have NX : Hid ((L2 ++ [(⟨b, .slice amC b.mails.length cmC, .slice atC b.tombs.length ctC⟩ : Lb)]).map (·.b) = s.boxes.take (k + 1)) := by show _ = _; rw [List.map_append, unhide HL2, take_snoc (unhide XB)]; rfl
      go_wp2
      go_roundw
      case rel => exact ⟨k + 1, _, _, _, by omega, by go_num, unhide NX, unhide A, unhide R, unhide O, unhide OR1, unhide EB1, unhide OR2, unhide EB9, unhide BB⟩
      case measure => simp [intOf]; omega
    · obtain rfl : k = n := by omega
      have A := hide oA
      have R := hide oR
      have O := hide oO
      have OR2 := hide o2
      have EB2 := hide oe2
      have BB := hide hbel
      clear oA oR oO o1 oe o2 oe2 hbel hlt hk
      have Ac0_2 := (unhide A).cell 0 rfl
      have Ac1_2 := (unhide A).cell 1 rfl
      have Oc0_3 := (unhide O).cell 0 rfl
      have Oc1_3 := (unhide O).cell 1 rfl
      have Rf0 := (unhide R).frozen 0
      have Rf1 := (unhide R).frozen 1
      have Re0 := (unhide R).cell 0 rfl
      have Re1 := (unhide R).cell 1 rfl
      have F := hide (fill2 (unhide R) (.slice a2 L2.length c2) (.int .i64 s.valid))
      obtain ⟨U, hU⟩ : ∃ U, U = ((wo.setCell ⟨wc1.heap.size, 0, none⟩ (.slice a2 L2.length c2)).setCell ⟨wc1.heap.size, 1, none⟩ (.int .i64 s.valid)) := ⟨_, rfl⟩
      have F9 := unhide F
      rw [← hU] at F9
      have EU := hU.symm
      clear F hU
      have v0 := F9.obj.cell 0 rfl
      have v1 := F9.obj.cell 1 rfl
      have F := hide F9
      clear F9
      go_wp2_with (refine bodyPost_ret (by simp [results, Try.results21, go_sem, v0, v1]; try rfl) rfl ?_)
      clear EU
      have F := unhide F
      refine ⟨_, rfl, ⟨L2, ?_, ⟨F.row (by decide) (unhide OR2), fun x hx => ⟨F.row (by decide) ((unhide EB2) x hx).1, F.row (by decide) ((unhide EB2) x hx).2⟩⟩⟩, F.below loR (unhide BB)⟩
      rw [unhide HL2, List.take_of_length_le (by have := unhide HN; omega)]
end Go.Proofs.Ytecognggnbopaac
