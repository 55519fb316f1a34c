/- The program's store and copiedStore. Made by gen_stores.py. -/
import Derived.Test.YtecognggnbopaacOpenI
namespace Go.Proofs.Ytecognggnbopaac
open Go.RowKit
open Plain
set_option linter.unusedVariables false
set_option linter.unusedSimpArgs false

set_option maxHeartbeats 8000000 in
set_option maxRecDepth 100000 in
theorem stored_any (v : Value) (mb : Nat) (valid : Int) (B : Nat) (P : List (Lb × Nat)) (w : World) (hl : P.length ≤ 1048578) (hp : OwnPt B w v (P.map (·.2))) (ho : ObjsB B w P) :
    Calls Try.prog 33 #[.agg #[v, .map (some mb), .int .i64 valid]] w fun e w' => ∃ v', e = .returned (.agg #[v', .int .i64 valid]) ∧ OwnBr w.heap.size w' v' (P.map (·.1)) ∧ Below w.heap.size w w' := by
  obtain ⟨iX, hX, hX0, hX1, hX2⟩ := info_parts Try.infoBox
  obtain ⟨a1, c1, rfl⟩ := g_shape hp
  obtain ⟨n, hn⟩ : ∃ n, n = P.length := ⟨_, rfl⟩
  rw [List.length_map, ← hn]
  rw [← hn] at hl
  have OP : Hid (OwnPt B w (.slice a1 n c1) (P.map (·.2))) := by show OwnPt _ _ _ _; rw [List.length_map, ← hn] at hp; exact hp
  have OB := hide ho
  have PLT := hide (fun p (hp : p ∈ P) => (ho p hp).2.1.lt)
  have HN := hide hn
  clear hp ho hn
  have BB := hide (Below.refl w.heap.size w)
  obtain ⟨wt1, hA⟩ : ∃ X, X = w.alloc (.cells ([.slice a1 n c1, .map (some mb), .int .i64 valid] : List Value).toArray 61) := ⟨_, rfl⟩
  have Ax : HasObj wt1 w.heap.size 61 [.slice a1 n c1, .map (some mb), .int .i64 valid] := by rw [hA]; exact HasObj.new _ _ _
  have hbn : Below w.heap.size w wt1 := by rw [hA]; exact (Below.refl _ _).alloc (Nat.le_refl _) _
  have loA : w.heap.size ≤ w.heap.size := (unhide BB).size
  have EA := hA.symm
  clear hA
  have OP_ := hide ((unhide OP).up hbn)
  clear OP
  have OP := OP_
  clear OP_
  have OB_ := hide ((unhide OB).up hbn)
  clear OB
  have OB := OB_
  clear OB_
  have sz1 := hide (hbn.size)
  have BB_ := hide (below_y (unhide BB) hbn)
  clear BB
  have BB := BB_
  clear BB_
  clear hbn
  have A := hide Ax
  clear Ax
  obtain ⟨wt2, hR⟩ : ∃ X, X = wt1.alloc (.cells ([.slice none 0 0, .int .i64 0] : List Value).toArray 28) := ⟨_, rfl⟩
  have Rx : HasObj wt2 wt1.heap.size 28 [.slice none 0 0, .int .i64 0] := by rw [hR]; exact HasObj.new _ _ _
  have hbn : Below wt1.heap.size wt1 wt2 := by rw [hR]; exact (Below.refl _ _).alloc (Nat.le_refl _) _
  have neAR : w.heap.size ≠ wt1.heap.size := Nat.ne_of_lt (unhide A).lt
  have loR : w.heap.size ≤ wt1.heap.size := (unhide BB).size
  have ER := hR.symm
  clear hR
  have A_ := hide ((unhide A).ups hbn)
  clear A
  have A := A_
  clear A_
  have OP_ := hide ((unhide OP).up hbn)
  clear OP
  have OP := OP_
  clear OP_
  have OB_ := hide ((unhide OB).up hbn)
  clear OB
  have OB := OB_
  clear OB_
  have sz2 := hide (hbn.size)
  have BB_ := hide (below_y (unhide BB) hbn)
  clear BB
  have BB := BB_
  clear BB_
  clear hbn
  have R := hide Rx
  clear Rx
  have Ac0_1 := (unhide A).cell 0 rfl
  have Ac1_1 := (unhide A).cell 1 rfl
  have Ac2_1 := (unhide A).cell 2 rfl
  obtain ⟨wt3, hO⟩ : ∃ X, X = wt2.alloc (.cells ([.slice none 0 0, .int .i64 valid] : List Value).toArray 28) := ⟨_, rfl⟩
  have Ox : HasObj wt3 wt2.heap.size 28 [.slice none 0 0, .int .i64 valid] := by rw [hO]; exact HasObj.new _ _ _
  have hbn : Below wt2.heap.size wt2 wt3 := by rw [hO]; exact (Below.refl _ _).alloc (Nat.le_refl _) _
  have neAO : w.heap.size ≠ wt2.heap.size := Nat.ne_of_lt (unhide A).lt
  have neRO : wt1.heap.size ≠ wt2.heap.size := Nat.ne_of_lt (unhide R).lt
  have loO : w.heap.size ≤ wt2.heap.size := (unhide BB).size
  have EO := hO.symm
  clear hO
  have A_ := hide ((unhide A).ups hbn)
  clear A
  have A := A_
  clear A_
  have R_ := hide ((unhide R).ups hbn)
  clear R
  have R := R_
  clear R_
  have OP_ := hide ((unhide OP).up hbn)
  clear OP
  have OP := OP_
  clear OP_
  have OB_ := hide ((unhide OB).up hbn)
  clear OB
  have OB := OB_
  clear OB_
  have sz3 := hide (hbn.size)
  have BB_ := hide (below_y (unhide BB) hbn)
  clear BB
  have BB := BB_
  clear BB_
  clear hbn
  have O := hide Ox
  clear Ox
  have Ac0_2 := (unhide A).cell 0 rfl
  have Ac1_2 := (unhide A).cell 1 rfl
  have Ac2_2 := (unhide A).cell 2 rfl
  go_enter Try.func33, Try.ntmps33
  go_wp2
  clear Ac0_1 Ac1_1 Ac2_1 Ac0_2 Ac1_2 Ac2_2 EA ER EO
  go_loopw [12] (fun i wr => ∃ (k : Nat) (L2 : List Lb) (a2 : Option Addr) (c2 : Nat), k ≤ n ∧ i = .int .i64 k ∧ L2 = (P.take k).map (·.1) ∧ HasObj wr (wt1.heap.size) 28 [.slice none 0 0, .int .i64 0] ∧ HasObj wr (wt2.heap.size) 28 [.slice a2 L2.length c2, .int .i64 valid] ∧ OwnPt B wr (.slice a1 n c1) (P.map (·.2)) ∧ ObjsB B wr P ∧ OwnBr w.heap.size wr (.slice a2 L2.length c2) L2 ∧ Below w.heap.size w wr) (fun i _ => n - (intOf i).toNat)
  case atStart => exact ⟨0, [], none, 0, Nat.zero_le _, rfl, by simp, unhide R, unhide O, unhide OP, unhide OB, World.ownsRow_nil _ _ _ _, unhide BB⟩
  clear OP OB BB A R O
  case round =>
    obtain ⟨k, L2, a2, c2, hk, rfl, hL2, oR, oO, op, ob, o2, hbel⟩ := hrel
    obtain ⟨wo, hwo⟩ : ∃ wo, wo = wr := ⟨_, rfl⟩
    subst hwo
    have HL2 := hide hL2
    clear hL2
    by_cases hlt : k < n
    · have hkl : k < P.length := by rw [← unhide HN]; exact hlt
      have hx : P[k]? = some P[k] := List.getElem?_eq_getElem hkl
      have hmx := List.getElem_mem hkl
      have hxg : (P.map (·.2))[k]? = some P[k].2 := by rw [List.getElem?_map, hx]; rfl
      have TK := hide (take_snoc hx)
      obtain ⟨q1, c9, e3, pc⟩ := pt_read op hxg
      have e5 := (Value.slice.inj e3).1
      clear e3
      subst e5
      generalize P[k] = x at *
      obtain ⟨⟨b, m, t⟩, g1⟩ := x
      obtain ⟨am, cm, ee1⟩ := g_shape (ob _ hmx).2.2.1
      obtain ⟨at1, ct1, ee2⟩ := g_shape (ob _ hmx).2.2.2
      simp only at ee1 ee2 pc hxg
      subst ee1 ee2
      have R := hide oR
      have O := hide oO
      have OP := hide op
      have OB := hide ob
      have OR2 := hide o2
      have BB := hide hbel
      have M1 := hide hmx
      have XG := hide hxg
      have LK : Hid (L2.length = k) := by show _ = _; rw [unhide HL2, List.length_map, List.length_take]; omega
      clear oR oO op ob o2 hbel hx hmx hxg
      have i1 : (0 : Int) ≤ (k : Int) := by omega
      have i2 : (k : Int) < (n : Int) := by omega
      have Oc0_3 := (unhide O).cell 0 rfl
      have Oc1_3 := (unhide O).cell 1 rfl
      go_wp2
      clear Oc0_3 Oc1_3
      clear pc
      refine lateBegin (S := fun w' => w'.cell? ⟨wt2.heap.size, 0, none⟩ = some (.slice a2 L2.length c2) ∧ w'.cell? ⟨g1, 0, none⟩ = some (.string b.name) ∧ w'.cell? ⟨g1, 1, none⟩ = some (.int .i64 b.valid) ∧ w'.cell? ⟨g1, 2, none⟩ = some (.int .i64 b.next) ∧ w'.cell? ⟨g1, 3, none⟩ = some (.int .i64 b.mod) ∧ w'.cell? ⟨g1, 4, none⟩ = some (.slice am b.mails.length cm) ∧ w'.cell? ⟨g1, 5, none⟩ = some (.slice at1 b.tombs.length ct1) ∧ w'.cell? ⟨g1, 6, none⟩ = some (.int .i64 b.hor)) 8 (by kernel_rfl) (⟨(unhide O).cell 0 rfl, ((unhide OB) _ (unhide M1)).2.1.cell 0 rfl, ((unhide OB) _ (unhide M1)).2.1.cell 1 rfl, ((unhide OB) _ (unhide M1)).2.1.cell 2 rfl, ((unhide OB) _ (unhide M1)).2.1.cell 3 rfl, ((unhide OB) _ (unhide M1)).2.1.cell 4 rfl, ((unhide OB) _ (unhide M1)).2.1.cell 5 rfl, ((unhide OB) _ (unhide M1)).2.1.cell 6 rfl⟩) (fun hHeld => ?_)
      have R_ := hide ((unhide R).drew)
      clear R
      have R := R_
      clear R_
      have O_ := hide ((unhide O).drew)
      clear O
      have O := O_
      clear O_
      have OP_ := hide ((unhide OP).drew)
      clear OP
      have OP := OP_
      clear OP_
      have OB_ := hide ((unhide OB).drew)
      clear OB
      have OB := OB_
      clear OB_
      have OR2_ := hide ((unhide OR2).drew)
      clear OR2
      have OR2 := OR2_
      clear OR2_
      have BB_ := hide ((unhide BB).drew)
      clear BB
      have BB := BB_
      clear BB_
      have sz101 : Hid (wo.heap.size ≤ wo.drew.heap.size) := Nat.le_refl _
      refine lateTake 0 (some 16) ?_ rfl (by kernel_rfl) (by kernel_rfl) (by kernel_rfl) (by kernel_rfl) rfl (fun _ _ _ h => h) (by rfl) (by assumption) ?_ ?_
      rotate_left
      · (intro w hSw; (try dsimp only at hSw); go_simp <;> with_reducible rfl)
      simp only [Act.put, List.setIfInBounds_toArray, List.set_cons_zero, List.set_cons_succ]
      refine lateTake 1 (some 17) ?_ rfl (by kernel_rfl) (by kernel_rfl) (by kernel_rfl) (by kernel_rfl) rfl (fun _ _ _ h => h) (by rfl) (by assumption) ?_ ?_
      rotate_left
      · (intro w hSw; (try dsimp only at hSw); go_simp <;> with_reducible rfl)
      simp only [Act.put, List.setIfInBounds_toArray, List.set_cons_zero, List.set_cons_succ]
      refine lateTake 2 (some 18) ?_ rfl (by kernel_rfl) (by kernel_rfl) (by kernel_rfl) (by kernel_rfl) rfl (fun _ _ _ h => h) (by rfl) (by assumption) ?_ ?_
      rotate_left
      · (intro w hSw; (try dsimp only at hSw); go_simp <;> with_reducible rfl)
      simp only [Act.put, List.setIfInBounds_toArray, List.set_cons_zero, List.set_cons_succ]
      refine lateTake 3 (some 19) ?_ rfl (by kernel_rfl) (by kernel_rfl) (by kernel_rfl) (by kernel_rfl) rfl (fun _ _ _ h => h) (by rfl) (by assumption) ?_ ?_
      rotate_left
      · (intro w hSw; (try dsimp only at hSw); go_simp <;> with_reducible rfl)
      simp only [Act.put, List.setIfInBounds_toArray, List.set_cons_zero, List.set_cons_succ]
      refine lateTake 4 (some 20) ?_ rfl (by kernel_rfl) (by kernel_rfl) (by kernel_rfl) (by kernel_rfl) rfl (fun _ _ _ h => h) (by rfl) (by assumption) ?_ ?_
      rotate_left
      · (intro w hSw; (try dsimp only at hSw); go_simp <;> with_reducible rfl)
      simp only [Act.put, List.setIfInBounds_toArray, List.set_cons_zero, List.set_cons_succ]
      refine lateStep 5 (by kernel_rfl) rfl (by rfl) (fun K hK => ?_)
      go_simp
      have hA : Below wo.drew.heap.size wo.drew (wo.drew.alloc (.cells ((lbC (⟨b, .slice am b.mails.length cm, .slice at1 b.tombs.length ct1⟩ : Lb)) : List Value).toArray 53)) := (Below.refl _ _).alloc (Nat.le_refl _) _
      have R_ := hide ((unhide R).ups hA)
      clear R
      have R := R_
      clear R_
      have O_ := hide ((unhide O).ups hA)
      clear O
      have O := O_
      clear O_
      have OP_ := hide ((unhide OP).up hA)
      clear OP
      have OP := OP_
      clear OP_
      have OB_ := hide ((unhide OB).up hA)
      clear OB
      have OB := OB_
      clear OB_
      have OR2_ := hide ((unhide OR2).up hA)
      clear OR2
      have OR2 := OR2_
      clear OR2_
      have sz102 := hide (hA.size)
      have BB_ := hide (below_y (unhide BB) hA)
      clear BB
      have BB := BB_
      clear BB_
      clear hA
      refine hK.out _ _ (⟨(unhide O).cell 0 rfl, ((unhide OB) _ (unhide M1)).2.1.cell 0 rfl, ((unhide OB) _ (unhide M1)).2.1.cell 1 rfl, ((unhide OB) _ (unhide M1)).2.1.cell 2 rfl, ((unhide OB) _ (unhide M1)).2.1.cell 3 rfl, ((unhide OB) _ (unhide M1)).2.1.cell 4 rfl, ((unhide OB) _ (unhide M1)).2.1.cell 5 rfl, ((unhide OB) _ (unhide M1)).2.1.cell 6 rfl⟩) (fun hHeld2 => ?_)
      clear hK K hHeld
      have hHeld := hHeld2; clear hHeld2
      try simp only [Act.put, List.setIfInBounds_toArray, List.set_cons_zero, List.set_cons_succ]
      have oa := unhide OR2
      have ldl := (unhide BB).size
      refine lateStep 6 (by kernel_rfl) rfl (by rfl) (fun K hK => ?_)
      refine wp_append_lies _ (.tmp 17) (.tmp 21) 26 rfl (w.heap.size) 53 iX _ 7 96 Try.underlying26 hX hX0 hX1 hX2 rfl (by decide) (.slice a2 L2.length c2) _ _ rfl oa ⟨wo.drew.heap.size, 0, none⟩ 1 1 (lbC (⟨b, .slice am b.mails.length cm, .slice at1 b.tombs.length ct1⟩ : Lb)) rfl rfl (newsC _ _) ?c2 (by decide) ?c3 ?c4 ?c5 (wo.drew.heap.size + 1) (by simp) ?_
      case c2 => intro u hu; simp [lbC] at hu; rcases hu with rfl | rfl | rfl | rfl | rfl | rfl | rfl <;> rfl
      case c3 => unfold maxLen; have := unhide LK; omega
      case c4 => have := unhide LK; omega
      case c5 => have q1_ := (unhide BB).size; have sz101_ := unhide sz101; have sz102_ := unhide sz102; (try simp at q1_); (try simp); omega
      intro gtr1 captr1 wtr1 hown hgr hat hlt_
      have R_ := hide ((unhide R).kept hgr (fun e => (unhide R).not_row (by decide) oa e.symm))
      have O_ := hide ((unhide O).kept hgr (fun e => (unhide O).not_row (by decide) oa e.symm))
      have OP_ : Hid (OwnPt B wtr1 (.slice (some ⟨q1, 0, none⟩) n c1) (P.map (·.2))) := g_aside (unhide OP) hgr (fun x hx => rows_apart oa (unhide OP) (by decide) x hx)
      have OB_ : Hid (ObjsB B wtr1 (P)) := (unhide OB).beyond (unhide PLT) oa (Nat.le_refl _) hgr (by decide) (by decide)
      have OR2_ : Hid (OwnBr (w.heap.size) wtr1 (.slice (some ⟨gtr1, 0, none⟩) (L2.length + 1) captr1) (L2 ++ [(⟨b, .slice am b.mails.length cm, .slice at1 b.tombs.length ct1⟩ : Lb)])) := by exact OwnBr.snoc hown
      have BB_ : Hid (Below w.heap.size w wtr1) := (unhide BB).grown hgr (unhide BB).size (fun b hb => by have q2_ := (World.ownsRow.lt oa b hb).1; have sz101_ := unhide sz101; have sz102_ := unhide sz102; omega)
      have sz103 : Hid ((wo.drew.alloc (.cells ((lbC (⟨b, .slice am b.mails.length cm, .slice at1 b.tombs.length ct1⟩ : Lb)) : List Value).toArray 53)).heap.size ≤ wtr1.heap.size) := hgr.size
      clear R
      have R := R_
      clear R_
      clear O
      have O := O_
      clear O_
      clear OP
      have OP := OP_
      clear OP_
      clear OB
      have OB := OB_
      clear OB_
      clear OR2
      have OR2 := OR2_
      clear OR2_
      clear BB
      have BB := BB_
      clear BB_
      clear hown hgr hat hlt_ oa ldl
      refine hK.out _ _ (⟨(unhide O).cell 0 rfl, ((unhide OB) _ (unhide M1)).2.1.cell 0 rfl, ((unhide OB) _ (unhide M1)).2.1.cell 1 rfl, ((unhide OB) _ (unhide M1)).2.1.cell 2 rfl, ((unhide OB) _ (unhide M1)).2.1.cell 3 rfl, ((unhide OB) _ (unhide M1)).2.1.cell 4 rfl, ((unhide OB) _ (unhide M1)).2.1.cell 5 rfl, ((unhide OB) _ (unhide M1)).2.1.cell 6 rfl⟩) (fun hHeld2 => ?_)
      clear hK K hHeld
      have hHeld := hHeld2; clear hHeld2
      try simp only [Act.put, List.setIfInBounds_toArray, List.set_cons_zero, List.set_cons_succ]
      refine lateStep 7 (by kernel_rfl) rfl (by rfl) (fun K hK => ?_)
      go_simp
      refine hK.out _ _ (⟨(unhide O).cell 0 rfl, ((unhide OB) _ (unhide M1)).2.1.cell 0 rfl, ((unhide OB) _ (unhide M1)).2.1.cell 1 rfl, ((unhide OB) _ (unhide M1)).2.1.cell 2 rfl, ((unhide OB) _ (unhide M1)).2.1.cell 3 rfl, ((unhide OB) _ (unhide M1)).2.1.cell 4 rfl, ((unhide OB) _ (unhide M1)).2.1.cell 5 rfl, ((unhide OB) _ (unhide M1)).2.1.cell 6 rfl⟩) (fun hHeld2 => ?_)
      clear hK K hHeld
      have hHeld := hHeld2; clear hHeld2
      try simp only [Act.put, List.setIfInBounds_toArray, List.set_cons_zero, List.set_cons_succ]
      have Ofz0_4 := (unhide O).frozen 0
      have Ocz0_4 := (unhide O).cell 0 rfl
      obtain ⟨wtr2, hst⟩ : ∃ X, X = wtr1.setCell ⟨wt2.heap.size, 0, none⟩ (.slice (some ⟨gtr1, 0, none⟩) (L2.length + 1) captr1) := ⟨_, rfl⟩
      have OP_ : Hid (OwnPt B wtr2 (.slice (some ⟨q1, 0, none⟩) n c1) (P.map (·.2))) := by show OwnPt _ _ _ _; rw [hst]; exact (unhide O).row (j := 0) (by decide) (unhide OP) _
      have OB_ : Hid (ObjsB B wtr2 (P)) := by show ObjsB _ _ _; rw [hst]; exact (unhide OB).set (j := 0) (unhide O) (by decide) (by decide) (by decide) _
      have OR2_ : Hid (OwnBr w.heap.size wtr2 (.slice (some ⟨gtr1, 0, none⟩) (L2.length + 1) captr1) (L2 ++ [(⟨b, .slice am b.mails.length cm, .slice at1 b.tombs.length ct1⟩ : Lb)])) := by show OwnBr _ _ _ _; rw [hst]; exact (unhide O).row (j := 0) (by decide) (unhide OR2) _
      have R_ := hide ((unhide R).other (j := 0) neRO (.slice (some ⟨gtr1, 0, none⟩) (L2.length + 1) captr1))
      rw [← hst] at R_
      have O_ := hide ((unhide O).set 0 (.slice (some ⟨gtr1, 0, none⟩) (L2.length + 1) captr1))
      rw [← hst] at O_
      have BB_ := hide ((unhide BB).setCell (p := ⟨wt2.heap.size, 0, none⟩) (show w.heap.size ≤ wt2.heap.size from loO) (.slice (some ⟨gtr1, 0, none⟩) (L2.length + 1) captr1))
      rw [← hst] at BB_
      have sz104 : Hid (wtr1.heap.size ≤ wtr2.heap.size) := by show _ ≤ _; rw [hst]; simp
      clear OP
      have OP := OP_
      clear OP_
      clear OB
      have OB := OB_
      clear OB_
      clear OR2
      have OR2 := OR2_
      clear OR2_
      clear R
      have R := R_
      clear R_
      clear O
      have O := O_
      clear O_
      clear BB
      have BB := BB_
      clear BB_
      have Est104 := hst.symm
      clear hst
      refine lateLast 8 (by decide) (by kernel_rfl) rfl (by rfl) (fun K hK => ?_)
      go_simp
      refine hK.out _ _ ?_
      clear hK K hHeld
      try simp only [Act.put, List.setIfInBounds_toArray, List.set_cons_zero, List.set_cons_succ]
      try rw [Est104]
      clear Ofz0_4 Ocz0_4 Est104
      refine lateDone (by kernel_rfl) ?_ _
      have e9 : L2.length + 1 = (L2 ++ [(⟨b, .slice am b.mails.length cm, .slice at1 b.tombs.length ct1⟩ : Lb)]).length := by simp
      rw [e9] at O OR2
      clear e9
      have NX : Hid (L2 ++ [(⟨b, .slice am b.mails.length cm, .slice at1 b.tombs.length ct1⟩ : Lb)] = (P.take (k + 1)).map (·.1)) := by show _ = _; rw [unhide TK, List.map_append, unhide HL2]; rfl
      go_wp2
      go_roundw
      case rel => exact ⟨k + 1, _, _, _, by omega, by go_num, unhide NX, unhide R, unhide O, unhide OP, unhide OB, unhide OR2, unhide BB⟩
      case measure => simp [intOf]; omega
    · obtain rfl : k = n := by omega
      have R := hide oR
      have O := hide oO
      have OR2 := hide o2
      have BB := hide hbel
      clear oR oO op ob o2 hbel hlt hk
      have Oc0_3 := (unhide O).cell 0 rfl
      have Oc1_3 := (unhide O).cell 1 rfl
      have Rf0 := (unhide R).frozen 0
      have Rf1 := (unhide R).frozen 1
      have Re0 := (unhide R).cell 0 rfl
      have Re1 := (unhide R).cell 1 rfl
      have F := hide (fill2 (unhide R) (.slice a2 L2.length c2) (.int .i64 valid))
      obtain ⟨U, hU⟩ : ∃ U, U = ((wo.setCell ⟨wt1.heap.size, 0, none⟩ (.slice a2 L2.length c2)).setCell ⟨wt1.heap.size, 1, none⟩ (.int .i64 valid)) := ⟨_, rfl⟩
      have F9 := unhide F
      rw [← hU] at F9
      have EU := hU.symm
      clear F hU
      have v0 := F9.obj.cell 0 rfl
      have v1 := F9.obj.cell 1 rfl
      have F := hide F9
      clear F9
      go_wp2_with (refine bodyPost_ret (by simp [results, Try.results33, go_sem, v0, v1]; try rfl) rfl ?_)
      clear EU
      have F := unhide F
      refine ⟨_, rfl, ?_, F.below loR (unhide BB)⟩
      have h9 := unhide HL2
      rw [List.take_of_length_le (by have := unhide HN; omega)] at h9
      rw [← h9]
      exact F.row (by decide) (unhide OR2)
theorem OwnSt.filled {B r : Nat} {W U : World} {v : Value} {l : List Bx} {t : TypeId} {us : List Value} (h : OwnSt B W v l) (F : Filled W r t us U) (h0 : t ≠ 53) (h1 : t ≠ 120) (h2 : t ≠ 122) : OwnSt B U v l := by
  obtain ⟨L, e, o, ap⟩ := h
  exact ⟨L, e, ⟨F.row h0 o.row, fun x hx => ⟨F.row h1 (o.each x hx).1, F.row h2 (o.each x hx).2⟩⟩, ap⟩
theorem OpenSt.based {B B' : Nat} {w : World} {v : Value} {mb : Nat} {P : List (Lb × Nat)} (h : OpenSt B w v mb P) (hB : B' ≤ B) : OpenSt B' w v mb P := by
  obtain ⟨S, h1, h2, h3⟩ := h.map
  exact ⟨h.row.based hB, h.objs.based hB, h.apart, S, h1.based hB, h2, h3⟩
theorem OpenSt.own {B : Nat} {w w' : World} {v v' : Value} {mb : Nat} {P : List (Lb × Nat)} {l : List Bx} (h : OpenSt B w v mb P) (hP : P.map (·.1.b) = l) (hr : OwnBr w.heap.size w' v' (P.map (·.1))) (hb : Below w.heap.size w w') (hB : B ≤ w.heap.size) : OwnSt B w' v' l := by
  refine ⟨P.map (·.1), by rw [List.map_map]; exact hP, ⟨hr.based hB, fun x hx => ?_⟩, ?_⟩
  · obtain ⟨p, hp, rfl⟩ := List.mem_map.1 hx
    exact (h.objs p hp).2.2.up hb
  · rw [List.pairwise_map]
    exact h.apart.imp fun h => h.2
theorem open_len {P : List (Lb × Nat)} {s : Sx} (h : P.map (·.1.b) = s.boxes) (hf : FitSt s) : P.length ≤ 1048578 := by have := congrArg List.length h; rw [List.length_map] at this; have := hf.len; omega
set_option maxHeartbeats 4000000 in
set_option maxRecDepth 100000 in
theorem copiedStore_any (s : Sx) (v : Value) (B : Nat) (w : World) (hf : FitSt s) (h : ReadSt B w v s.boxes) :
    Calls Try.prog 29 #[.agg #[v, .int .i64 s.valid]] w fun e w' => ∃ v', e = .returned (.agg #[v', .int .i64 s.valid]) ∧ OwnSt w.heap.size w' v' s.boxes ∧ Below w.heap.size w w' := by
  obtain ⟨a1, c1, rfl⟩ := h.shape
  have S1 := hide h
  have FT := hide hf
  clear h hf
  have BB := hide (Below.refl w.heap.size w)
  obtain ⟨wk1, hA⟩ : ∃ X, X = w.alloc (.cells ([.slice a1 s.boxes.length c1, .int .i64 s.valid] : List Value).toArray 28) := ⟨_, rfl⟩
  have Ax : HasObj wk1 w.heap.size 28 [.slice a1 s.boxes.length c1, .int .i64 s.valid] := by rw [hA]; exact HasObj.new _ _ _
  have hbn : Below w.heap.size w wk1 := by rw [hA]; exact (Below.refl _ _).alloc (Nat.le_refl _) _
  have loA : w.heap.size ≤ w.heap.size := (unhide BB).size
  have EA := hA.symm
  clear hA
  have S1_ := hide ((unhide S1).up hbn)
  clear S1
  have S1 := S1_
  clear S1_
  have sz1 := hide (hbn.size)
  have BB_ := hide (below_y (unhide BB) hbn)
  clear BB
  have BB := BB_
  clear BB_
  clear hbn
  have A := hide Ax
  clear Ax
  obtain ⟨wk2, hR⟩ : ∃ X, X = wk1.alloc (.cells ([.slice none 0 0, .int .i64 0] : List Value).toArray 28) := ⟨_, rfl⟩
  have Rx : HasObj wk2 wk1.heap.size 28 [.slice none 0 0, .int .i64 0] := by rw [hR]; exact HasObj.new _ _ _
  have hbn : Below wk1.heap.size wk1 wk2 := by rw [hR]; exact (Below.refl _ _).alloc (Nat.le_refl _) _
  have neAR : w.heap.size ≠ wk1.heap.size := Nat.ne_of_lt (unhide A).lt
  have loR : w.heap.size ≤ wk1.heap.size := (unhide BB).size
  have ER := hR.symm
  clear hR
  have A_ := hide ((unhide A).ups hbn)
  clear A
  have A := A_
  clear A_
  have S1_ := hide ((unhide S1).up hbn)
  clear S1
  have S1 := S1_
  clear S1_
  have sz2 := hide (hbn.size)
  have BB_ := hide (below_y (unhide BB) hbn)
  clear BB
  have BB := BB_
  clear BB_
  clear hbn
  have R := hide Rx
  clear Rx
  have Ac0_1 := (unhide A).cell 0 rfl
  have Ac1_1 := (unhide A).cell 1 rfl
  go_enter Try.func29, Try.ntmps29
  go_wp2_with fail
  clear Ac0_1 Ac1_1 EA ER
  have LOP : Hid (w.heap.size ≤ wk2.heap.size) := (unhide BB).size
  refine (openedStore_any s _ _ _ (unhide FT) (unhide S1)).mono ?_
  rintro e wk3 ⟨vP, mbP, P, hPP, rfl, oS, hb⟩
  obtain ⟨aP, cP, rfl⟩ := g_shape oS.row
  rw [List.length_map] at oS ⊢
  have OSP_ := hide (oS.based (unhide LOP))
  have HPP := hide hPP
  clear oS hPP
  have A_ := hide ((unhide A).ups hb)
  clear A
  have A := A_
  clear A_
  have R_ := hide ((unhide R).ups hb)
  clear R
  have R := R_
  clear R_
  have S1_ := hide ((unhide S1).up hb)
  clear S1
  have S1 := S1_
  clear S1_
  have sz3 := hide (hb.size)
  have BB_ := hide (below_y (unhide BB) hb)
  clear BB
  have BB := BB_
  clear BB_
  clear hb
  have OSP := OSP_
  clear OSP_
  replace LOP : Hid (w.heap.size ≤ wk3.heap.size) := (unhide BB).size
  go_wp2_with fail
  refine (stored_any _ mbP s.valid _ P _ (open_len (unhide HPP) (unhide FT)) (unhide OSP).row (unhide OSP).objs).mono ?_
  rintro e wk4 ⟨v9, rfl, o9, hb⟩
  obtain ⟨a9, c9, rfl⟩ := g_shape o9
  have OW_ := hide ((unhide OSP).own (unhide HPP) o9 hb (unhide LOP))
  clear o9
  clear OSP
  have A_ := hide ((unhide A).ups hb)
  clear A
  have A := A_
  clear A_
  have R_ := hide ((unhide R).ups hb)
  clear R
  have R := R_
  clear R_
  have S1_ := hide ((unhide S1).up hb)
  clear S1
  have S1 := S1_
  clear S1_
  have sz4 := hide (hb.size)
  have BB_ := hide (below_y (unhide BB) hb)
  clear BB
  have BB := BB_
  clear BB_
  clear hb
  have OW := OW_
  clear OW_
  have HLP : Hid ((P.map (·.1)).length = s.boxes.length) := by show _ = _; rw [List.length_map, ← unhide HPP, List.length_map]
  rw [unhide HLP] at OW ⊢
  have Rf0 := (unhide R).frozen 0
  have Rf1 := (unhide R).frozen 1
  have Re0 := (unhide R).cell 0 rfl
  have Re1 := (unhide R).cell 1 rfl
  have F := hide (fill2 (unhide R) (.slice a9 s.boxes.length c9) (.int .i64 s.valid))
  obtain ⟨U, hU⟩ : ∃ U, U = ((wk4.setCell ⟨wk1.heap.size, 0, none⟩ (.slice a9 s.boxes.length c9)).setCell ⟨wk1.heap.size, 1, none⟩ (.int .i64 s.valid)) := ⟨_, rfl⟩
  have F9 := unhide F
  rw [← hU] at F9
  have EU := hU.symm
  clear F hU
  have v0 := F9.obj.cell 0 rfl
  have v1 := F9.obj.cell 1 rfl
  have F := hide F9
  clear F9
  go_wp2_with (refine bodyPost_ret (by simp [results, Try.results29, go_sem, v0, v1]; try rfl) rfl ?_)
  clear EU
  have F := unhide F
  exact ⟨_, rfl, (unhide OW).filled F (by decide) (by decide) (by decide), F.below loR (unhide BB)⟩
theorem field_named (w : World) (a c : Value) (mb : Nat) : (Instr.field 61 (.agg #[a, .map (some mb), c]) 1).run Try.prog w = .ok (.map (some mb)) w := by kernel_rfl
theorem found_at {P : List (Lb × Nat)} {s : Sx} {n : ByteArray} {g : Nat} (hP : P.map (·.1.b) = s.boxes) (hf : findB P n = some g) : ∃ k x, P[k]? = some (x, g) ∧ s.boxes[k]? = some x.b ∧ sameN n x.b = true ∧ (∀ y ∈ s.boxes.take k, sameN n y = false) ∧ boxAt s n = some x.b := by
  obtain ⟨k, ⟨x, g'⟩, h1, h2, h3, h4⟩ := findB_some hf
  simp only at h2
  subst h2
  have h5 : s.boxes[k]? = some x.b := by rw [← hP, List.getElem?_map, h1]; rfl
  have h6 : ∀ y ∈ s.boxes.take k, sameN n y = false := fun y hy => by
    rw [← hP, ← List.map_take] at hy
    obtain ⟨z, hz, rfl⟩ := List.mem_map.1 hy
    exact h4 z hz
  exact ⟨k, x, h1, h5, h3, h6, boxAt_first h5 h3 h6⟩
theorem found_no {P : List (Lb × Nat)} {s : Sx} {n : ByteArray} (hP : P.map (·.1.b) = s.boxes) (hf : findB P n = none) : boxAt s n = none := boxAt_none fun y hy => by
  rw [← hP] at hy
  obtain ⟨z, hz, rfl⟩ := List.mem_map.1 hy
  exact findB_none hf z hz
end Go.Proofs.Ytecognggnbopaac
