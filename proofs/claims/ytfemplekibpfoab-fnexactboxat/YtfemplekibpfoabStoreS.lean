/- The specification's BoxAt and l09Copy. Made by gen_stores.py. -/
import Derived.Test.YtfemplekibpfoabStoreOkS
import Derived.Test.YtfemplekibpfoabBoxCopyS
import Derived.Test.YtfemplekibpfoabRegA
namespace Go.Proofs.Ytfemplekibpfoab
open Go.RowKit
open Plain
set_option linter.unusedVariables false
set_option linter.unusedSimpArgs false

set_option maxHeartbeats 8000000 in
set_option maxRecDepth 100000 in
theorem spec_BoxAt_any (s : Sx) (name : ByteArray) (v : Value) (B : Nat) (w : World) (hf : FitSt s) (h : ReadSt B w v s.boxes) :
    Calls Try.prog 10 #[.agg #[v, .int .i64 s.valid], .string name] w fun e w' => ∃ m t, e = .returned (.tuple #[boxV (atV s name).1 m t, .bool (atV s name).2]) ∧ OwnBx w.heap.size w' m t (atV s name).1 ∧ Below w.heap.size w w' := by
  obtain ⟨L, hL, h⟩ := h
  obtain ⟨a1, c1, rfl⟩ := g_shape h.row
  obtain ⟨n, hn⟩ : ∃ n, n = s.boxes.length := ⟨_, rfl⟩
  have hn1 : L.length = n := by rw [hn, ← hL, List.length_map]
  have hnl := hf.len
  rw [← hn] at hnl
  have S1 := hide h
  rw [hn1] at S1 ⊢
  have FE := hide hf.each
  have HL := hide hL
  have HN := hide hn
  have HN1 := hide hn1
  clear h hL hn hn1 hf
  have BB := hide (Below.refl w.heap.size w)
  obtain ⟨wa1, hA⟩ : ∃ X, X = w.alloc (.cells ([.slice a1 n c1, .int .i64 s.valid] : List Value).toArray 29) := ⟨_, rfl⟩
  have Ax : HasObj wa1 w.heap.size 29 [.slice a1 n c1, .int .i64 s.valid] := by rw [hA]; exact HasObj.new _ _ _
  have hbn : Below w.heap.size w wa1 := by rw [hA]; exact (Below.refl _ _).alloc (Nat.le_refl _) _
  have loA : w.heap.size ≤ w.heap.size := (unhide BB).size
  have EA := hA.symm
  clear hA
  have S1_ := hide ((unhide S1).up hbn)
  clear S1
  have S1 := S1_
  clear S1_
  have sz1 := hide (hbn.size)
  have BB_ := hide (below_y (unhide BB) hbn)
  clear BB
  have BB := BB_
  clear BB_
  clear hbn
  have A := hide Ax
  clear Ax
  obtain ⟨wa2, hR⟩ : ∃ X, X = wa1.alloc (.cells ([.string ⟨#[]⟩, .int .i64 0, .int .i64 0, .int .i64 0, .slice none 0 0, .slice none 0 0, .int .i64 0] : List Value).toArray 36) := ⟨_, rfl⟩
  have Rx : HasObj wa2 wa1.heap.size 36 [.string ⟨#[]⟩, .int .i64 0, .int .i64 0, .int .i64 0, .slice none 0 0, .slice none 0 0, .int .i64 0] := by rw [hR]; exact HasObj.new _ _ _
  have hbn : Below wa1.heap.size wa1 wa2 := by rw [hR]; exact (Below.refl _ _).alloc (Nat.le_refl _) _
  have neAR : w.heap.size ≠ wa1.heap.size := Nat.ne_of_lt (unhide A).lt
  have loR : w.heap.size ≤ wa1.heap.size := (unhide BB).size
  have ER := hR.symm
  clear hR
  have A_ := hide ((unhide A).ups hbn)
  clear A
  have A := A_
  clear A_
  have S1_ := hide ((unhide S1).up hbn)
  clear S1
  have S1 := S1_
  clear S1_
  have sz2 := hide (hbn.size)
  have BB_ := hide (below_y (unhide BB) hbn)
  clear BB
  have BB := BB_
  clear BB_
  clear hbn
  have R := hide Rx
  clear Rx
  have Ac0_1 := (unhide A).cell 0 rfl
  have Ac1_1 := (unhide A).cell 1 rfl
  go_enter Try.func10, Try.ntmps10
  go_wp2
  clear Ac0_1 Ac1_1 EA ER
  go_loopw [6] (fun i wr => ∃ k : Nat, k ≤ n ∧ i = .int .i64 k ∧ (∀ y ∈ s.boxes.take k, sameN name y = false) ∧ HasObj wr (wa1.heap.size) 36 [.string ⟨#[]⟩, .int .i64 0, .int .i64 0, .int .i64 0, .slice none 0 0, .slice none 0 0, .int .i64 0] ∧ HasObj wr (w.heap.size) 29 [.slice a1 n c1, .int .i64 s.valid] ∧ OwnBs B wr (.slice a1 n c1) L ∧ Below w.heap.size w wr) (fun i _ => n - (intOf i).toNat)
  case atStart => exact ⟨0, Nat.zero_le _, rfl, by simp, unhide R, unhide A, unhide S1, unhide BB⟩
  clear S1 BB A R
  case round =>
    obtain ⟨k, hk, rfl, hno, oR, oA, o1, hbel⟩ := hrel
    obtain ⟨wo, hwo⟩ : ∃ wo, wo = wr := ⟨_, rfl⟩
    subst hwo
    have HNO := hide hno
    clear hno
    by_cases hlt : k < n
    · have hkl : k < L.length := by rw [unhide HN1]; exact hlt
      have hx : L[k]? = some L[k] := List.getElem?_eq_getElem hkl
      have hbx : s.boxes[k]? = some L[k].b := by rw [← unhide HL, List.getElem?_map, hx]; rfl
      have hmx := List.getElem_mem hkl
      have hfx := unhide FE _ (List.mem_of_getElem? hbx)
      obtain ⟨g1, q1, e3, _, _, _⟩ := br_read o1.row hx
      have e5 := (Value.slice.inj e3).1
      clear e3
      subst e5
      generalize L[k] = x at *
      obtain ⟨b, m, t⟩ := x
      simp only at hbx hfx
      obtain ⟨am, cm, ee1⟩ := g_shape (o1.each _ hmx).1
      obtain ⟨at1, ct1, ee2⟩ := g_shape (o1.each _ hmx).2
      simp only at ee1 ee2
      subst ee1 ee2
      have A := hide oA
      have R := hide oR
      clear oA oR
      have S1 := hide o1
      have BB := hide hbel
      have X1 := hide hx
      have XB := hide hbx
      have M1 := hide hmx
      have FX := hide hfx
      clear o1 hbel hx hbx hmx hfx
      have i1 : (0 : Int) ≤ (k : Int) := by omega
      have i2 : (k : Int) < (n : Int) := by omega
      have Ac0_2 := (unhide A).cell 0 rfl
      have Ac1_2 := (unhide A).cell 1 rfl
      have ec0_3 := (br_of (unhide S1).row (unhide X1)).1
      simp only at ec0_3
      have ec1_3 := (br_of (unhide S1).row (unhide X1)).2.1
      simp only at ec1_3
      have ec2_3 := (br_of (unhide S1).row (unhide X1)).2.2.1
      simp only at ec2_3
      have ec3_3 := (br_of (unhide S1).row (unhide X1)).2.2.2.1
      simp only at ec3_3
      have ec4_3 := (br_of (unhide S1).row (unhide X1)).2.2.2.2.1
      simp only at ec4_3
      have ec5_3 := (br_of (unhide S1).row (unhide X1)).2.2.2.2.2.1
      simp only at ec5_3
      have ec6_3 := (br_of (unhide S1).row (unhide X1)).2.2.2.2.2.2
      simp only at ec6_3
      cases hd : (b.name.toList == name.toList) with
      | false =>
        have NX := hide (none_more (unhide XB) hd (unhide HNO))
        go_wp2
        go_roundw
        case rel => exact ⟨k + 1, by omega, by go_num, unhide NX, unhide R, unhide A, unhide S1, unhide BB⟩
        case measure => simp [intOf]; omega
      | true =>
        have ANS : Hid (atV s name = (b, true)) := atV_some (boxAt_first (unhide XB) hd (unhide HNO))
        have hbel9 : w.heap.size ≤ wo.heap.size := (unhide BB).size
        go_wp2_with fail
        clear Ac0_2 Ac1_2 ec0_3 ec1_3 ec2_3 ec3_3 ec4_3 ec5_3 ec6_3
        refine (l08Copy_any b _ _ B _ (Nat.le_trans (unhide FX).mails (by decide)) (Nat.le_trans (unhide FX).tombs (by decide)) ((unhide S1).each _ (unhide M1))).mono ?_
        rintro e way1 ⟨mC, tC, rfl, oC, hb⟩
        obtain ⟨amC, cmC, rfl⟩ := g_shape oC.1
        obtain ⟨atC, ctC, rfl⟩ := g_shape oC.2
        have NC := hide (OwnBx.base oC)
        have A_ := hide ((unhide A).ups hb)
        clear A
        have A := A_
        clear A_
        have R_ := hide ((unhide R).ups hb)
        clear R
        have R := R_
        clear R_
        have S1_ := hide ((unhide S1).up hb)
        clear S1
        have S1 := S1_
        clear S1_
        have sz101 := hide (hb.size)
        have BB_ := hide (below_y (unhide BB) hb)
        clear BB
        have BB := BB_
        clear BB_
        clear hb
        have OC := hide oC
        clear oC
        clear hd
        have Rf0 := (unhide R).frozen 0
        have Rf1 := (unhide R).frozen 1
        have Rf2 := (unhide R).frozen 2
        have Rf3 := (unhide R).frozen 3
        have Rf4 := (unhide R).frozen 4
        have Rf5 := (unhide R).frozen 5
        have Rf6 := (unhide R).frozen 6
        have Re0 := (unhide R).cell 0 rfl
        have Re1 := (unhide R).cell 1 rfl
        have Re2 := (unhide R).cell 2 rfl
        have Re3 := (unhide R).cell 3 rfl
        have Re4 := (unhide R).cell 4 rfl
        have Re5 := (unhide R).cell 5 rfl
        have Re6 := (unhide R).cell 6 rfl
        have F := hide (fill7 (unhide R) (.string b.name) (.int .i64 b.valid) (.int .i64 b.next) (.int .i64 b.mod) (.slice amC b.mails.length cmC) (.slice atC b.tombs.length ctC) (.int .i64 b.hor))
        obtain ⟨U, hU⟩ : ∃ U, U = (((((((way1.setCell ⟨wa1.heap.size, 0, none⟩ (.string b.name)).setCell ⟨wa1.heap.size, 1, none⟩ (.int .i64 b.valid)).setCell ⟨wa1.heap.size, 2, none⟩ (.int .i64 b.next)).setCell ⟨wa1.heap.size, 3, none⟩ (.int .i64 b.mod)).setCell ⟨wa1.heap.size, 4, none⟩ (.slice amC b.mails.length cmC)).setCell ⟨wa1.heap.size, 5, none⟩ (.slice atC b.tombs.length ctC)).setCell ⟨wa1.heap.size, 6, none⟩ (.int .i64 b.hor)) := ⟨_, rfl⟩
        have F9 := unhide F
        rw [← hU] at F9
        have EU := hU.symm
        clear F hU
        have v0 := F9.obj.cell 0 rfl
        have v1 := F9.obj.cell 1 rfl
        have v2 := F9.obj.cell 2 rfl
        have v3 := F9.obj.cell 3 rfl
        have v4 := F9.obj.cell 4 rfl
        have v5 := F9.obj.cell 5 rfl
        have v6 := F9.obj.cell 6 rfl
        have F := hide F9
        clear F9
        go_wp2_with (refine bodyPost_ret (by simp [results, Try.results10, go_sem, v0, v1, v2, v3, v4, v5, v6]; try rfl) rfl ?_)
        clear EU
        have F := unhide F
        rw [unhide ANS]
        have OC9 := unhide OC
        exact ⟨_, _, rfl, OwnBx.based ⟨F.row (by decide) OC9.1, F.row (by decide) OC9.2⟩ hbel9, F.below loR (unhide BB)⟩
    · obtain rfl : k = n := by omega
      have A := hide oA
      have R := hide oR
      have BB := hide hbel
      clear oA oR o1 hbel hlt hk
      have ANS : Hid (atV s name = (bx0, false)) := atV_none (boxAt_none (by have h9 := unhide HNO; rw [List.take_of_length_le (by have := unhide HN; omega)] at h9; exact h9))
      have Ac0_2 := (unhide A).cell 0 rfl
      have Ac1_2 := (unhide A).cell 1 rfl
      have Rf0 := (unhide R).frozen 0
      have Rf1 := (unhide R).frozen 1
      have Rf2 := (unhide R).frozen 2
      have Rf3 := (unhide R).frozen 3
      have Rf4 := (unhide R).frozen 4
      have Rf5 := (unhide R).frozen 5
      have Rf6 := (unhide R).frozen 6
      have Re0 := (unhide R).cell 0 rfl
      have Re1 := (unhide R).cell 1 rfl
      have Re2 := (unhide R).cell 2 rfl
      have Re3 := (unhide R).cell 3 rfl
      have Re4 := (unhide R).cell 4 rfl
      have Re5 := (unhide R).cell 5 rfl
      have Re6 := (unhide R).cell 6 rfl
      have F := hide (fill7 (unhide R) (.string ⟨#[]⟩) (.int .i64 0) (.int .i64 0) (.int .i64 0) (.slice none 0 0) (.slice none 0 0) (.int .i64 0))
      obtain ⟨U, hU⟩ : ∃ U, U = (((((((wo.setCell ⟨wa1.heap.size, 0, none⟩ (.string ⟨#[]⟩)).setCell ⟨wa1.heap.size, 1, none⟩ (.int .i64 0)).setCell ⟨wa1.heap.size, 2, none⟩ (.int .i64 0)).setCell ⟨wa1.heap.size, 3, none⟩ (.int .i64 0)).setCell ⟨wa1.heap.size, 4, none⟩ (.slice none 0 0)).setCell ⟨wa1.heap.size, 5, none⟩ (.slice none 0 0)).setCell ⟨wa1.heap.size, 6, none⟩ (.int .i64 0)) := ⟨_, rfl⟩
      have F9 := unhide F
      rw [← hU] at F9
      have EU := hU.symm
      clear F hU
      have v0 := F9.obj.cell 0 rfl
      have v1 := F9.obj.cell 1 rfl
      have v2 := F9.obj.cell 2 rfl
      have v3 := F9.obj.cell 3 rfl
      have v4 := F9.obj.cell 4 rfl
      have v5 := F9.obj.cell 5 rfl
      have v6 := F9.obj.cell 6 rfl
      have F := hide F9
      clear F9
      go_wp2_with (refine bodyPost_ret (by simp [results, Try.results10, go_sem, v0, v1, v2, v3, v4, v5, v6]; try rfl) rfl ?_)
      clear EU
      have F := unhide F
      rw [unhide ANS]
      exact ⟨.slice none 0 0, .slice none 0 0, rfl, ⟨World.ownsRow_nil _ _ _ _, World.ownsRow_nil _ _ _ _⟩, F.below loR (unhide BB)⟩
end Go.Proofs.Ytfemplekibpfoab
