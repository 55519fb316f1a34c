/- The walk of FnExactDropBox. Made by gen_storelaws.py. -/
import Derived.Test.YtecognggnbopaacStoreLaws1
import Derived.Test.YtecognggnbopaacStorePlain2
namespace Go.Proofs.Ytecognggnbopaac
open Go.RowKit
open Plain
set_option linter.unusedVariables false
set_option linter.unusedSimpArgs false

set_option maxHeartbeats 16000000 in
set_option maxRecDepth 100000 in
theorem FnExactDropBox_walk (s : Sx) (a0 : Option Addr) (c0 : Nat) (name : ByteArray) (w : World) (h : ArgSt w.heap.size w a0 s)
    (AL : SmallBs 1048576 s.boxes → SmallA (dropV s name).1.boxes)
    (CI : ∀ (v : Value) (B : Nat) (W : World), SmallBs 1048576 s.boxes → name.size ≤ 1048576 → ReadSt B W v s.boxes → Below w.heap.size w W → Calls Try.prog 14 #[.agg #[v, .int .i64 s.valid], .string name] W fun e w' => ∃ v', e = .returned (.tuple #[.agg #[v', .int .i64 (dropV s name).1.valid], .int .i64 (dropV s name).2]) ∧ OwnSt W.heap.size w' v' (dropV s name).1.boxes ∧ Below W.heap.size W w')
    (SI : ∀ (v : Value) (B : Nat) (W : World), SmallBs 1048576 s.boxes → name.size ≤ 1048576 → ReadSt B W v s.boxes → Calls Try.prog 13 #[.agg #[v, .int .i64 s.valid], .string name] W fun e w' => ∃ v', e = .returned (.tuple #[.agg #[v', .int .i64 (dropV s name).1.valid], .int .i64 (dropV s name).2]) ∧ ReadSt W.heap.size w' v' (dropV s name).1.boxes ∧ Below W.heap.size W w') :
    Calls Try.prog 4 #[.agg #[.slice a0 s.boxes.length c0, .int .i64 s.valid], .string name] w fun e w' => e = .returned (.bool true) ∧ Below w.heap.size w w' := by
  have HA := hide h
  have CH := hide CI
  have SH := hide SI
  clear h CI SI
  have BB := hide (Below.refl w.heap.size w)
  obtain ⟨w1, hA⟩ : ∃ X, X = w.alloc (.cells ([.slice a0 s.boxes.length c0, .int .i64 s.valid] : List Value).toArray 24) := ⟨_, rfl⟩
  have Ax : HasObj w1 w.heap.size 24 [.slice a0 s.boxes.length c0, .int .i64 s.valid] := by rw [hA]; exact HasObj.new _ _ _
  have hbn : Below w.heap.size w w1 := by rw [hA]; exact (Below.refl _ _).alloc (Nat.le_refl _) _
  have loA : w.heap.size ≤ w.heap.size := (unhide BB).size
  have EA := hA.symm
  clear hA
  have sz1 := hide (hbn.size)
  have BB_ := hide (below_y (unhide BB) hbn)
  clear BB
  have BB := BB_
  clear BB_
  clear hbn
  have A := hide Ax
  clear Ax
  by_cases hzname : name.size ≤ 1048576
  rotate_left
  · have dname : decide ((1048576 : Int) < (name.size : Int)) = true := by rw [decide_eq_true_eq]; omega
    go_enter Try.func4, Try.ntmps4
    go_wp2
    go_ret
    exact ⟨rfl, unhide BB⟩
  have dname : decide ((1048576 : Int) < (name.size : Int)) = false := by rw [decide_eq_false_iff_not]; omega
  have SZ := hide (fun W (hb : Below w.heap.size w W) => szStore_sum s a0 c0 1048576 W (Nat.le_refl _) ((unhide HA).up hb))
  have Ac0_1 := (unhide A).cell 0 rfl
  have Ac1_1 := (unhide A).cell 1 rfl
  go_enter Try.func4, Try.ntmps4
  go_wp2_with fail
  clear Ac0_1 Ac1_1 EA
  refine (unhide SZ _ (unhide BB)).mono ?_
  rintro e w2 ⟨⟨q, rfl, hq⟩, hb⟩
  have A_ := hide ((unhide A).ups hb)
  clear A
  have A := A_
  clear A_
  have sz2 := hide (hb.size)
  have BB_ := hide (below_y (unhide BB) hb)
  clear BB
  have BB := BB_
  clear BB_
  clear hb
  clear SZ
  rcases hq with rfl | ⟨q, rfl, hq, hsm⟩
  · go_wp2
    go_ret
    exact ⟨rfl, unhide BB⟩
  have iq : ¬ (q : Int) < 0 := by omega
  have SM := hide hsm
  clear hsm
  have TS := hide (fun W (hb : Below w.heap.size w W) => toStore_any s a0 c0 W (unhide SM) ((unhide HA).up hb))
  have CJ := hide (fun (v : Value) (B : Nat) (W : World) (h : ReadSt B W v s.boxes) hb => unhide CH v B W (unhide SM) hzname h hb)
  have SJ := hide (fun (v : Value) (B : Nat) (W : World) (h : ReadSt B W v s.boxes) => unhide SH v B W (unhide SM) hzname h)
  have SA := hide (AL (unhide SM))
  clear CH SH AL
  generalize dropV s name = an at *
  obtain ⟨z, code⟩ := an
  simp only at CJ SJ SA
  have Ac0_2 := (unhide A).cell 0 rfl
  have Ac1_2 := (unhide A).cell 1 rfl
  go_wp2_with fail
  clear Ac0_2 Ac1_2
  refine (unhide TS _ (unhide BB)).mono ?_
  rintro e w3 ⟨vP, LP, hLP, rfl, oP, hapP, hb⟩
  obtain ⟨aP, cP, rfl⟩ := g_shape oP.row
  have NP := hide (OwnBs.base oP)
  have OP_ := hide oP
  have HLP := hide hLP
  clear oP hLP
  have APP := hide hapP
  clear hapP
  have A_ := hide ((unhide A).ups hb)
  clear A
  have A := A_
  clear A_
  have sz3 := hide (hb.size)
  have BB_ := hide (below_y (unhide BB) hb)
  clear BB
  have BB := BB_
  clear BB_
  clear hb
  have OP := OP_
  clear OP_
  go_wp2_with fail
  refine (unhide SJ _ _ _ ⟨LP, unhide HLP, unhide OP⟩).mono ?_
  rintro e w4 ⟨vW, rfl, ⟨LW, hLW, oW⟩, hb⟩
  obtain ⟨aW, cW, rfl⟩ := g_shape oW.row
  have NW := hide (OwnBs.base oW)
  have OW_ := hide oW
  have HLW := hide hLW
  clear oW hLW
  have A_ := hide ((unhide A).ups hb)
  clear A
  have A := A_
  clear A_
  have OP_ := hide ((unhide OP).up hb)
  clear OP
  have OP := OP_
  clear OP_
  have sz4 := hide (hb.size)
  have BB_ := hide (below_y (unhide BB) hb)
  clear BB
  have BB := BB_
  clear BB_
  clear hb
  have OW := OW_
  clear OW_
  clear OP
  obtain ⟨w5, hW⟩ : ∃ X, X = w4.alloc (.cells ([.slice aW LW.length cW, .int .i64 z.valid] : List Value).toArray 28) := ⟨_, rfl⟩
  have Wx : HasObj w5 w4.heap.size 28 [.slice aW LW.length cW, .int .i64 z.valid] := by rw [hW]; exact HasObj.new _ _ _
  have hbn : Below w4.heap.size w4 w5 := by rw [hW]; exact (Below.refl _ _).alloc (Nat.le_refl _) _
  have neAW : w.heap.size ≠ w4.heap.size := Nat.ne_of_lt (unhide A).lt
  have loW : w.heap.size ≤ w4.heap.size := (unhide BB).size
  have EW := hW.symm
  clear hW
  have A_ := hide ((unhide A).ups hbn)
  clear A
  have A := A_
  clear A_
  have OW_ := hide ((unhide OW).up hbn)
  clear OW
  have OW := OW_
  clear OW_
  have sz5 := hide (hbn.size)
  have BB_ := hide (below_y (unhide BB) hbn)
  clear BB
  have BB := BB_
  clear BB_
  clear hbn
  have W := hide Wx
  clear Wx
  have Ac0_3 := (unhide A).cell 0 rfl
  have Ac1_3 := (unhide A).cell 1 rfl
  go_wp2_with fail
  clear Ac0_3 Ac1_3 EW
  refine (unhide TS _ (unhide BB)).mono ?_
  rintro e w6 ⟨vX, LX, hLX, rfl, oX, hapX, hb⟩
  obtain ⟨aX, cX, rfl⟩ := g_shape oX.row
  have NX := hide (OwnBs.base oX)
  have OX_ := hide oX
  have HLX := hide hLX
  clear oX hLX
  have APX := hide hapX
  clear hapX
  have A_ := hide ((unhide A).ups hb)
  clear A
  have A := A_
  clear A_
  have W_ := hide ((unhide W).ups hb)
  clear W
  have W := W_
  clear W_
  have OW_ := hide ((unhide OW).up hb)
  clear OW
  have OW := OW_
  clear OW_
  have sz6 := hide (hb.size)
  have BB_ := hide (below_y (unhide BB) hb)
  clear BB
  have BB := BB_
  clear BB_
  clear hb
  have OX := OX_
  clear OX_
  obtain ⟨w7, hX⟩ : ∃ X, X = w6.alloc (.cells ([.slice aX LX.length cX, .int .i64 s.valid] : List Value).toArray 28) := ⟨_, rfl⟩
  have Xx : HasObj w7 w6.heap.size 28 [.slice aX LX.length cX, .int .i64 s.valid] := by rw [hX]; exact HasObj.new _ _ _
  have hbn : Below w6.heap.size w6 w7 := by rw [hX]; exact (Below.refl _ _).alloc (Nat.le_refl _) _
  have neAX : w.heap.size ≠ w6.heap.size := Nat.ne_of_lt (unhide A).lt
  have neWX : w4.heap.size ≠ w6.heap.size := Nat.ne_of_lt (unhide W).lt
  have loX : w.heap.size ≤ w6.heap.size := (unhide BB).size
  have EX := hX.symm
  clear hX
  have A_ := hide ((unhide A).ups hbn)
  clear A
  have A := A_
  clear A_
  have W_ := hide ((unhide W).ups hbn)
  clear W
  have W := W_
  clear W_
  have OW_ := hide ((unhide OW).up hbn)
  clear OW
  have OW := OW_
  clear OW_
  have OX_ := hide ((unhide OX).up hbn)
  clear OX
  have OX := OX_
  clear OX_
  have sz7 := hide (hbn.size)
  have BB_ := hide (below_y (unhide BB) hbn)
  clear BB
  have BB := BB_
  clear BB_
  clear hbn
  have X := hide Xx
  clear Xx
  have Xc0_4 := (unhide X).cell 0 rfl
  have Xc1_4 := (unhide X).cell 1 rfl
  go_wp2_with fail
  clear Xc0_4 Xc1_4 EX
  refine (unhide CJ _ _ _ ⟨LX, unhide HLX, unhide OX⟩ (unhide BB)).mono ?_
  rintro e w8 ⟨vG, rfl, ⟨LG, hLG, oG, hapG⟩, hb⟩
  obtain ⟨aG, cG, rfl⟩ := g_shape oG.row
  have NG := hide (OwnBs.base oG)
  have OG_ := hide oG
  have HLG := hide hLG
  clear oG hLG
  have APG := hide hapG
  clear hapG
  have A_ := hide ((unhide A).ups hb)
  clear A
  have A := A_
  clear A_
  have W_ := hide ((unhide W).ups hb)
  clear W
  have W := W_
  clear W_
  have X_ := hide ((unhide X).ups hb)
  clear X
  have X := X_
  clear X_
  have OW_ := hide ((unhide OW).up hb)
  clear OW
  have OW := OW_
  clear OW_
  have OX_ := hide ((unhide OX).up hb)
  clear OX
  have OX := OX_
  clear OX_
  have sz8 := hide (hb.size)
  have BB_ := hide (below_y (unhide BB) hb)
  clear BB
  have BB := BB_
  clear BB_
  clear hb
  have OG := OG_
  clear OG_
  obtain ⟨w9, hG⟩ : ∃ X, X = w8.alloc (.cells ([.slice aG LG.length cG, .int .i64 z.valid] : List Value).toArray 28) := ⟨_, rfl⟩
  have Gx : HasObj w9 w8.heap.size 28 [.slice aG LG.length cG, .int .i64 z.valid] := by rw [hG]; exact HasObj.new _ _ _
  have hbn : Below w8.heap.size w8 w9 := by rw [hG]; exact (Below.refl _ _).alloc (Nat.le_refl _) _
  have neAG : w.heap.size ≠ w8.heap.size := Nat.ne_of_lt (unhide A).lt
  have neWG : w4.heap.size ≠ w8.heap.size := Nat.ne_of_lt (unhide W).lt
  have neXG : w6.heap.size ≠ w8.heap.size := Nat.ne_of_lt (unhide X).lt
  have loG : w.heap.size ≤ w8.heap.size := (unhide BB).size
  have EG := hG.symm
  clear hG
  have A_ := hide ((unhide A).ups hbn)
  clear A
  have A := A_
  clear A_
  have W_ := hide ((unhide W).ups hbn)
  clear W
  have W := W_
  clear W_
  have X_ := hide ((unhide X).ups hbn)
  clear X
  have X := X_
  clear X_
  have OW_ := hide ((unhide OW).up hbn)
  clear OW
  have OW := OW_
  clear OW_
  have OX_ := hide ((unhide OX).up hbn)
  clear OX
  have OX := OX_
  clear OX_
  have OG_ := hide ((unhide OG).up hbn)
  clear OG
  have OG := OG_
  clear OG_
  have sz9 := hide (hbn.size)
  have BB_ := hide (below_y (unhide BB) hbn)
  clear BB
  have BB := BB_
  clear BB_
  clear hbn
  have G := hide Gx
  clear Gx
  have Gc0_5 := (unhide G).cell 0 rfl
  have Gc1_5 := (unhide G).cell 1 rfl
  have Wc0_6 := (unhide W).cell 0 rfl
  have Wc1_6 := (unhide W).cell 1 rfl
  go_wp2_with fail
  clear Gc0_5 Gc1_5 Wc0_6 Wc1_6 EG
  refine (eqStore_same z LG LW _ _ _ _ _ ((unhide SA)).len ((unhide SA)).each (unhide HLG) (unhide HLW) (unhide OG) (unhide OW)).mono ?_
  rintro e w10 ⟨rfl, hb⟩
  have A_ := hide ((unhide A).ups hb)
  clear A
  have A := A_
  clear A_
  have W_ := hide ((unhide W).ups hb)
  clear W
  have W := W_
  clear W_
  have X_ := hide ((unhide X).ups hb)
  clear X
  have X := X_
  clear X_
  have G_ := hide ((unhide G).ups hb)
  clear G
  have G := G_
  clear G_
  have OW_ := hide ((unhide OW).up hb)
  clear OW
  have OW := OW_
  clear OW_
  have OX_ := hide ((unhide OX).up hb)
  clear OX
  have OX := OX_
  clear OX_
  have OG_ := hide ((unhide OG).up hb)
  clear OG
  have OG := OG_
  clear OG_
  have sz10 := hide (hb.size)
  have BB_ := hide (below_y (unhide BB) hb)
  clear BB
  have BB := BB_
  clear BB_
  clear hb
  have Xc0_7 := (unhide X).cell 0 rfl
  have Xc1_7 := (unhide X).cell 1 rfl
  have Ac0_8 := (unhide A).cell 0 rfl
  have Ac1_8 := (unhide A).cell 1 rfl
  go_wp2
  clear Xc0_7 Xc1_7 Ac0_8 Ac1_8
  refine wp_region_held_drew (S := fun w' => w'.cell? ⟨w6.heap.size, 0, none⟩ = some (.slice aX LX.length cX) ∧ w'.cell? ⟨w6.heap.size, 1, none⟩ = some (.int .i64 s.valid) ∧ w'.cell? ⟨w.heap.size, 0, none⟩ = some (.slice a0 s.boxes.length c0) ∧ w'.cell? ⟨w.heap.size, 1, none⟩ = some (.int .i64 s.valid)) (by kernel_rfl) (⟨(unhide X).cell 0 rfl, (unhide X).cell 1 rfl, (unhide A).cell 0 rfl, (unhide A).cell 1 rfl⟩) (fun hHeld => ?_)
  have A_ := hide ((unhide A).drew)
  clear A
  have A := A_
  clear A_
  have W_ := hide ((unhide W).drew)
  clear W
  have W := W_
  clear W_
  have X_ := hide ((unhide X).drew)
  clear X
  have X := X_
  clear X_
  have G_ := hide ((unhide G).drew)
  clear G
  have G := G_
  clear G_
  have OW_ := hide ((unhide OW).drew)
  clear OW
  have OW := OW_
  clear OW_
  have OX_ := hide ((unhide OX).drew)
  clear OX
  have OX := OX_
  clear OX_
  have OG_ := hide ((unhide OG).drew)
  clear OG
  have OG := OG_
  clear OG_
  have BB_ := hide ((unhide BB).drew)
  clear BB
  have BB := BB_
  clear BB_
  have sz11 : Hid (w10.heap.size ≤ w10.drew.heap.size) := Nat.le_refl _
  refine takeVal 0 (some 48) ?_ rfl (by kernel_rfl) (by kernel_rfl) (by kernel_rfl) rfl (fun _ _ _ h => h) (by rfl) (by assumption) ?_ ?_
  rotate_left
  · (intro w hSw; (try dsimp only at hSw); go_simp <;> with_reducible rfl)
  simp only [Act.put, List.setIfInBounds_toArray, List.set_cons_zero, List.set_cons_succ]
  refine takeVal 1 (some 49) ?_ rfl (by kernel_rfl) (by kernel_rfl) (by kernel_rfl) rfl (fun _ _ _ h => h) (by rfl) (by assumption) ?_ ?_
  rotate_left
  · (intro w hSw; (try dsimp only at hSw); go_simp <;> with_reducible rfl)
  simp only [Act.put, List.setIfInBounds_toArray, List.set_cons_zero, List.set_cons_succ]
  refine wpAnyH_ready (rs := [2]) (by kernel_rfl) (by simp) ?_
  refine AllReadyH.cons rfl (fun K hK => ?_) AllReadyH.nil
  go_simp
  refine (unhide TS _ (unhide BB)).mono ?_
  rintro e w11 ⟨vC, LC, hLC, rfl, oC, hapC, hb⟩
  obtain ⟨aC, cC, rfl⟩ := g_shape oC.row
  have NC := hide (OwnBs.base oC)
  have OC_ := hide oC
  have HLC := hide hLC
  clear oC hLC
  have APC := hide hapC
  clear hapC
  have A_ := hide ((unhide A).ups hb)
  clear A
  have A := A_
  clear A_
  have W_ := hide ((unhide W).ups hb)
  clear W
  have W := W_
  clear W_
  have X_ := hide ((unhide X).ups hb)
  clear X
  have X := X_
  clear X_
  have G_ := hide ((unhide G).ups hb)
  clear G
  have G := G_
  clear G_
  have OW_ := hide ((unhide OW).up hb)
  clear OW
  have OW := OW_
  clear OW_
  have OX_ := hide ((unhide OX).up hb)
  clear OX
  have OX := OX_
  clear OX_
  have OG_ := hide ((unhide OG).up hb)
  clear OG
  have OG := OG_
  clear OG_
  have sz12 := hide (hb.size)
  have BB_ := hide (below_y (unhide BB) hb)
  clear BB
  have BB := BB_
  clear BB_
  clear hb
  have OC := OC_
  clear OC_
  go_wp2_with fail
  refine hK.out _ _ (⟨(unhide X).cell 0 rfl, (unhide X).cell 1 rfl, (unhide A).cell 0 rfl, (unhide A).cell 1 rfl⟩) (fun hHeld2 => ?_)
  clear hK K hHeld
  have hHeld := hHeld2; clear hHeld2
  try simp only [Act.put, List.setIfInBounds_toArray, List.set_cons_zero, List.set_cons_succ]
  refine wpAnyH_ready (rs := [3]) (by kernel_rfl) (by simp) ?_
  refine AllReadyH.cons rfl (fun K hK => ?_) AllReadyH.nil
  go_simp
  refine (eqStore_same s LX LC _ _ _ _ _ (unhide SM).a.len (unhide SM).a.each (unhide HLX) (unhide HLC) (unhide OX) (unhide OC)).mono ?_
  rintro e w12 ⟨rfl, hb⟩
  have A_ := hide ((unhide A).ups hb)
  clear A
  have A := A_
  clear A_
  have W_ := hide ((unhide W).ups hb)
  clear W
  have W := W_
  clear W_
  have X_ := hide ((unhide X).ups hb)
  clear X
  have X := X_
  clear X_
  have G_ := hide ((unhide G).ups hb)
  clear G
  have G := G_
  clear G_
  have OW_ := hide ((unhide OW).up hb)
  clear OW
  have OW := OW_
  clear OW_
  have OX_ := hide ((unhide OX).up hb)
  clear OX
  have OX := OX_
  clear OX_
  have OG_ := hide ((unhide OG).up hb)
  clear OG
  have OG := OG_
  clear OG_
  have OC_ := hide ((unhide OC).up hb)
  clear OC
  have OC := OC_
  clear OC_
  have sz13 := hide (hb.size)
  have BB_ := hide (below_y (unhide BB) hb)
  clear BB
  have BB := BB_
  clear BB_
  clear hb
  go_wp2_with fail
  refine hK.out _ _ (⟨(unhide X).cell 0 rfl, (unhide X).cell 1 rfl, (unhide A).cell 0 rfl, (unhide A).cell 1 rfl⟩) (fun hHeld2 => ?_)
  clear hK K hHeld
  have hHeld := hHeld2; clear hHeld2
  try simp only [Act.put, List.setIfInBounds_toArray, List.set_cons_zero, List.set_cons_succ]
  refine takeVal 4 (some 52) ?_ rfl (by kernel_rfl) (by kernel_rfl) (by kernel_rfl) rfl (fun _ _ _ h => h) (by rfl) (by assumption) ?_ ?_
  rotate_left
  · (intro w hSw; (try dsimp only at hSw); go_simp <;> with_reducible rfl)
  simp only [Act.put, List.setIfInBounds_toArray, List.set_cons_zero, List.set_cons_succ]
  refine wpAnyH_done (by kernel_rfl) ?_ _
  clear OC
  clear HLC APC NC
  have M9 := hide (fun (W : World) h => markStore_any LX (.slice aX LX.length cX)  s.valid w5.heap.size 1 W (((unhide SM).a).sumL (unhide HLX)) (((unhide SM).a).on (unhide HLX)) (by decide) (by decide) (unhide APX) h)
  obtain ⟨KX, hKX⟩ : ∃ K, K = 1 + sumB LX := ⟨_, rfl⟩
  rw [← hKX] at M9
  have jKX : ¬ (KX : Int) < 0 := by omega
  have bKX : KX ≤ 1 + 20971520 := by have q1 := sumB_le LX; have q2 := ((unhide SM).a).sumL (unhide HLX); omega
  have HKX := hide hKX
  clear hKX
  have Xc0_9 := (unhide X).cell 0 rfl
  have Xc1_9 := (unhide X).cell 1 rfl
  go_wp2_with fail
  clear Xc0_9 Xc1_9
  refine (unhide M9 _ (unhide OX)).mono ?_
  rintro e w13 ⟨rfl, om, hg⟩
  have A_ := hide (hg.obj (unhide A) (fun hh => by rcases hh with hh | ⟨z, hz, hh | hh⟩; exact (unhide A).not_row (by decide) (unhide OX).row hh; exact (unhide A).not_row (by decide) ((unhide OX).each z hz).1 hh; exact (unhide A).not_row (by decide) ((unhide OX).each z hz).2 hh))
  have W_ := hide (hg.obj (unhide W) (fun hh => by rcases hh with hh | ⟨z, hz, hh | hh⟩; exact (unhide W).not_row (by decide) (unhide OX).row hh; exact (unhide W).not_row (by decide) ((unhide OX).each z hz).1 hh; exact (unhide W).not_row (by decide) ((unhide OX).each z hz).2 hh))
  have X_ := hide (hg.obj (unhide X) (fun hh => by rcases hh with hh | ⟨z, hz, hh | hh⟩; exact (unhide X).not_row (by decide) (unhide OX).row hh; exact (unhide X).not_row (by decide) ((unhide OX).each z hz).1 hh; exact (unhide X).not_row (by decide) ((unhide OX).each z hz).2 hh))
  have G_ := hide (hg.obj (unhide G) (fun hh => by rcases hh with hh | ⟨z, hz, hh | hh⟩; exact (unhide G).not_row (by decide) (unhide OX).row hh; exact (unhide G).not_row (by decide) ((unhide OX).each z hz).1 hh; exact (unhide G).not_row (by decide) ((unhide OX).each z hz).2 hh))
  have OW_ := hide ((unhide OW).butB hg (fun g hg1 hg2 => by have q1 := unhide NW g hg1; have q2 := unhide NX g hg2; have sz1_ := unhide sz1; have sz2_ := unhide sz2; have sz3_ := unhide sz3; have sz4_ := unhide sz4; have sz5_ := unhide sz5; have sz6_ := unhide sz6; have sz7_ := unhide sz7; have sz8_ := unhide sz8; have sz9_ := unhide sz9; have sz10_ := unhide sz10; have sz11_ := unhide sz11; have sz12_ := unhide sz12; have sz13_ := unhide sz13; omega))
  have OG_ := hide ((unhide OG).butB hg (fun g hg1 hg2 => by have q1 := unhide NG g hg1; have q2 := unhide NX g hg2; have sz1_ := unhide sz1; have sz2_ := unhide sz2; have sz3_ := unhide sz3; have sz4_ := unhide sz4; have sz5_ := unhide sz5; have sz6_ := unhide sz6; have sz7_ := unhide sz7; have sz8_ := unhide sz8; have sz9_ := unhide sz9; have sz10_ := unhide sz10; have sz11_ := unhide sz11; have sz12_ := unhide sz12; have sz13_ := unhide sz13; omega))
  have BB_ : Hid (Below w.heap.size w w13) := (unhide BB).trans (hg.toBelow (unhide BB).size (fun g hh => by have q2 := unhide NX g hh; have sz1_ := unhide sz1; have sz2_ := unhide sz2; have sz3_ := unhide sz3; have sz4_ := unhide sz4; have sz5_ := unhide sz5; have sz6_ := unhide sz6; have sz7_ := unhide sz7; have sz8_ := unhide sz8; have sz9_ := unhide sz9; have sz10_ := unhide sz10; have sz11_ := unhide sz11; have sz12_ := unhide sz12; have sz13_ := unhide sz13; omega))
  have sz14 := hide (hg.size)
  clear A
  have A := A_
  clear A_
  clear W
  have W := W_
  clear W_
  clear X
  have X := X_
  clear X_
  clear G
  have G := G_
  clear G_
  clear OW
  have OW := OW_
  clear OW_
  clear OG
  have OG := OG_
  clear OG_
  clear BB
  have BB := BB_
  clear BB_
  clear OX M9
  have OX := hide om
  clear om hg
  clear OX
  clear X
  have Gc0_10 := (unhide G).cell 0 rfl
  have Gc1_10 := (unhide G).cell 1 rfl
  have Wc0_11 := (unhide W).cell 0 rfl
  have Wc1_11 := (unhide W).cell 1 rfl
  go_wp2_with fail
  clear Gc0_10 Gc1_10 Wc0_11 Wc1_11
  refine (eqStore_same z LG LW _ _ _ _ _ ((unhide SA)).len ((unhide SA)).each (unhide HLG) (unhide HLW) (unhide OG) (unhide OW)).mono ?_
  rintro e w14 ⟨rfl, hb⟩
  have A_ := hide ((unhide A).ups hb)
  clear A
  have A := A_
  clear A_
  have W_ := hide ((unhide W).ups hb)
  clear W
  have W := W_
  clear W_
  have G_ := hide ((unhide G).ups hb)
  clear G
  have G := G_
  clear G_
  have OW_ := hide ((unhide OW).up hb)
  clear OW
  have OW := OW_
  clear OW_
  have OG_ := hide ((unhide OG).up hb)
  clear OG
  have OG := OG_
  clear OG_
  have sz15 := hide (hb.size)
  have BB_ := hide (below_y (unhide BB) hb)
  clear BB
  have BB := BB_
  clear BB_
  clear hb
  have M9 := hide (fun (W : World) h => markStore_any LG (.slice aG LG.length cG)  z.valid w7.heap.size 1 W (((unhide SA)).sumL (unhide HLG)) (((unhide SA)).on (unhide HLG)) (by decide) (by decide) (unhide APG) h)
  obtain ⟨KG, hKG⟩ : ∃ K, K = 1 + sumB LG := ⟨_, rfl⟩
  rw [← hKG] at M9
  have jKG : ¬ (KG : Int) < 0 := by omega
  have bKG : KG ≤ 1 + 20971520 := by have q1 := sumB_le LG; have q2 := ((unhide SA)).sumL (unhide HLG); omega
  have HKG := hide hKG
  clear hKG
  have Gc0_12 := (unhide G).cell 0 rfl
  have Gc1_12 := (unhide G).cell 1 rfl
  go_wp2_with fail
  clear Gc0_12 Gc1_12
  refine (unhide M9 _ (unhide OG)).mono ?_
  rintro e w15 ⟨rfl, om, hg⟩
  have A_ := hide (hg.obj (unhide A) (fun hh => by rcases hh with hh | ⟨z, hz, hh | hh⟩; exact (unhide A).not_row (by decide) (unhide OG).row hh; exact (unhide A).not_row (by decide) ((unhide OG).each z hz).1 hh; exact (unhide A).not_row (by decide) ((unhide OG).each z hz).2 hh))
  have W_ := hide (hg.obj (unhide W) (fun hh => by rcases hh with hh | ⟨z, hz, hh | hh⟩; exact (unhide W).not_row (by decide) (unhide OG).row hh; exact (unhide W).not_row (by decide) ((unhide OG).each z hz).1 hh; exact (unhide W).not_row (by decide) ((unhide OG).each z hz).2 hh))
  have G_ := hide (hg.obj (unhide G) (fun hh => by rcases hh with hh | ⟨z, hz, hh | hh⟩; exact (unhide G).not_row (by decide) (unhide OG).row hh; exact (unhide G).not_row (by decide) ((unhide OG).each z hz).1 hh; exact (unhide G).not_row (by decide) ((unhide OG).each z hz).2 hh))
  have OW_ := hide ((unhide OW).butB hg (fun g hg1 hg2 => by have q1 := unhide NW g hg1; have q2 := unhide NG g hg2; have sz1_ := unhide sz1; have sz2_ := unhide sz2; have sz3_ := unhide sz3; have sz4_ := unhide sz4; have sz5_ := unhide sz5; have sz6_ := unhide sz6; have sz7_ := unhide sz7; have sz8_ := unhide sz8; have sz9_ := unhide sz9; have sz10_ := unhide sz10; have sz11_ := unhide sz11; have sz12_ := unhide sz12; have sz13_ := unhide sz13; have sz14_ := unhide sz14; have sz15_ := unhide sz15; omega))
  have BB_ : Hid (Below w.heap.size w w15) := (unhide BB).trans (hg.toBelow (unhide BB).size (fun g hh => by have q2 := unhide NG g hh; have sz1_ := unhide sz1; have sz2_ := unhide sz2; have sz3_ := unhide sz3; have sz4_ := unhide sz4; have sz5_ := unhide sz5; have sz6_ := unhide sz6; have sz7_ := unhide sz7; have sz8_ := unhide sz8; have sz9_ := unhide sz9; have sz10_ := unhide sz10; have sz11_ := unhide sz11; have sz12_ := unhide sz12; have sz13_ := unhide sz13; have sz14_ := unhide sz14; have sz15_ := unhide sz15; omega))
  have sz16 := hide (hg.size)
  clear A
  have A := A_
  clear A_
  clear W
  have W := W_
  clear W_
  clear G
  have G := G_
  clear G_
  clear OW
  have OW := OW_
  clear OW_
  clear BB
  have BB := BB_
  clear BB_
  clear OG M9
  have OG := hide om
  clear om hg
  have M9 := hide (fun (W : World) h => heldStore_any LG (.slice aG LG.length cG)  z.valid w7.heap.size 1 W (((unhide SA)).sumL (unhide HLG)) (((unhide SA)).on (unhide HLG)) (by decide) (by decide) h)
  rw [← unhide HKG] at M9
  have Gc0_13 := (unhide G).cell 0 rfl
  have Gc1_13 := (unhide G).cell 1 rfl
  go_wp2_with fail
  clear Gc0_13 Gc1_13
  refine (unhide M9 _ (unhide OG)).mono ?_
  rintro e w16 ⟨rfl, hb⟩
  have A_ := hide ((unhide A).ups hb)
  clear A
  have A := A_
  clear A_
  have W_ := hide ((unhide W).ups hb)
  clear W
  have W := W_
  clear W_
  have G_ := hide ((unhide G).ups hb)
  clear G
  have G := G_
  clear G_
  have OW_ := hide ((unhide OW).up hb)
  clear OW
  have OW := OW_
  clear OW_
  have OG_ := hide ((unhide OG).up hb)
  clear OG
  have OG := OG_
  clear OG_
  have sz17 := hide (hb.size)
  have BB_ := hide (below_y (unhide BB) hb)
  clear BB
  have BB := BB_
  clear BB_
  clear hb
  clear M9
  have Ac0_14 := (unhide A).cell 0 rfl
  have Ac1_14 := (unhide A).cell 1 rfl
  go_wp2_with fail
  clear Ac0_14 Ac1_14
  refine (unhide TS _ (unhide BB)).mono ?_
  rintro e w17 ⟨vQ, LQ, hLQ, rfl, oQ, hapQ, hb⟩
  obtain ⟨aQ, cQ, rfl⟩ := g_shape oQ.row
  have NQ := hide (OwnBs.base oQ)
  have OQ_ := hide oQ
  have HLQ := hide hLQ
  clear oQ hLQ
  have APQ := hide hapQ
  clear hapQ
  have A_ := hide ((unhide A).ups hb)
  clear A
  have A := A_
  clear A_
  have W_ := hide ((unhide W).ups hb)
  clear W
  have W := W_
  clear W_
  have G_ := hide ((unhide G).ups hb)
  clear G
  have G := G_
  clear G_
  have OW_ := hide ((unhide OW).up hb)
  clear OW
  have OW := OW_
  clear OW_
  have OG_ := hide ((unhide OG).up hb)
  clear OG
  have OG := OG_
  clear OG_
  have sz18 := hide (hb.size)
  have BB_ := hide (below_y (unhide BB) hb)
  clear BB
  have BB := BB_
  clear BB_
  clear hb
  have OQ := OQ_
  clear OQ_
  go_wp2_with fail
  refine (unhide CJ _ _ _ ⟨LQ, unhide HLQ, unhide OQ⟩ (unhide BB)).mono ?_
  rintro e w18 ⟨vH, rfl, ⟨LH, hLH, oH, hapH⟩, hb⟩
  obtain ⟨aH, cH, rfl⟩ := g_shape oH.row
  have NH := hide (OwnBs.base oH)
  have OH_ := hide oH
  have HLH := hide hLH
  clear oH hLH
  have APH := hide hapH
  clear hapH
  have A_ := hide ((unhide A).ups hb)
  clear A
  have A := A_
  clear A_
  have W_ := hide ((unhide W).ups hb)
  clear W
  have W := W_
  clear W_
  have G_ := hide ((unhide G).ups hb)
  clear G
  have G := G_
  clear G_
  have OW_ := hide ((unhide OW).up hb)
  clear OW
  have OW := OW_
  clear OW_
  have OG_ := hide ((unhide OG).up hb)
  clear OG
  have OG := OG_
  clear OG_
  have OQ_ := hide ((unhide OQ).up hb)
  clear OQ
  have OQ := OQ_
  clear OQ_
  have sz19 := hide (hb.size)
  have BB_ := hide (below_y (unhide BB) hb)
  clear BB
  have BB := BB_
  clear BB_
  clear hb
  have OH := OH_
  clear OH_
  clear OQ
  obtain ⟨w19, hH⟩ : ∃ X, X = w18.alloc (.cells ([.slice aH LH.length cH, .int .i64 z.valid] : List Value).toArray 28) := ⟨_, rfl⟩
  have Hx : HasObj w19 w18.heap.size 28 [.slice aH LH.length cH, .int .i64 z.valid] := by rw [hH]; exact HasObj.new _ _ _
  have hbn : Below w18.heap.size w18 w19 := by rw [hH]; exact (Below.refl _ _).alloc (Nat.le_refl _) _
  have neAH : w.heap.size ≠ w18.heap.size := Nat.ne_of_lt (unhide A).lt
  have neWH : w4.heap.size ≠ w18.heap.size := Nat.ne_of_lt (unhide W).lt
  have neGH : w8.heap.size ≠ w18.heap.size := Nat.ne_of_lt (unhide G).lt
  have loH : w.heap.size ≤ w18.heap.size := (unhide BB).size
  have EH := hH.symm
  clear hH
  have A_ := hide ((unhide A).ups hbn)
  clear A
  have A := A_
  clear A_
  have W_ := hide ((unhide W).ups hbn)
  clear W
  have W := W_
  clear W_
  have G_ := hide ((unhide G).ups hbn)
  clear G
  have G := G_
  clear G_
  have OW_ := hide ((unhide OW).up hbn)
  clear OW
  have OW := OW_
  clear OW_
  have OG_ := hide ((unhide OG).up hbn)
  clear OG
  have OG := OG_
  clear OG_
  have OH_ := hide ((unhide OH).up hbn)
  clear OH
  have OH := OH_
  clear OH_
  have sz20 := hide (hbn.size)
  have BB_ := hide (below_y (unhide BB) hbn)
  clear BB
  have BB := BB_
  clear BB_
  clear hbn
  have H := hide Hx
  clear Hx
  have Hc0_15 := (unhide H).cell 0 rfl
  have Hc1_15 := (unhide H).cell 1 rfl
  have Wc0_16 := (unhide W).cell 0 rfl
  have Wc1_16 := (unhide W).cell 1 rfl
  go_wp2_with fail
  clear Hc0_15 Hc1_15 Wc0_16 Wc1_16 EH
  refine (eqStore_same z LH LW _ _ _ _ _ ((unhide SA)).len ((unhide SA)).each (unhide HLH) (unhide HLW) (unhide OH) (unhide OW)).mono ?_
  rintro e w20 ⟨rfl, hb⟩
  have A_ := hide ((unhide A).ups hb)
  clear A
  have A := A_
  clear A_
  have W_ := hide ((unhide W).ups hb)
  clear W
  have W := W_
  clear W_
  have G_ := hide ((unhide G).ups hb)
  clear G
  have G := G_
  clear G_
  have H_ := hide ((unhide H).ups hb)
  clear H
  have H := H_
  clear H_
  have OW_ := hide ((unhide OW).up hb)
  clear OW
  have OW := OW_
  clear OW_
  have OG_ := hide ((unhide OG).up hb)
  clear OG
  have OG := OG_
  clear OG_
  have OH_ := hide ((unhide OH).up hb)
  clear OH
  have OH := OH_
  clear OH_
  have sz21 := hide (hb.size)
  have BB_ := hide (below_y (unhide BB) hb)
  clear BB
  have BB := BB_
  clear BB_
  clear hb
  have M9 := hide (fun (W : World) h => heldStore_any LG (.slice aG LG.length cG)  z.valid w7.heap.size 1 W (((unhide SA)).sumL (unhide HLG)) (((unhide SA)).on (unhide HLG)) (by decide) (by decide) h)
  rw [← unhide HKG] at M9
  have Gc0_17 := (unhide G).cell 0 rfl
  have Gc1_17 := (unhide G).cell 1 rfl
  go_wp2_with fail
  clear Gc0_17 Gc1_17
  refine (unhide M9 _ (unhide OG)).mono ?_
  rintro e w21 ⟨rfl, hb⟩
  have A_ := hide ((unhide A).ups hb)
  clear A
  have A := A_
  clear A_
  have W_ := hide ((unhide W).ups hb)
  clear W
  have W := W_
  clear W_
  have G_ := hide ((unhide G).ups hb)
  clear G
  have G := G_
  clear G_
  have H_ := hide ((unhide H).ups hb)
  clear H
  have H := H_
  clear H_
  have OW_ := hide ((unhide OW).up hb)
  clear OW
  have OW := OW_
  clear OW_
  have OG_ := hide ((unhide OG).up hb)
  clear OG
  have OG := OG_
  clear OG_
  have OH_ := hide ((unhide OH).up hb)
  clear OH
  have OH := OH_
  clear OH_
  have sz22 := hide (hb.size)
  have BB_ := hide (below_y (unhide BB) hb)
  clear BB
  have BB := BB_
  clear BB_
  clear hb
  clear M9
  go_wp2
  go_ret
  exact ⟨rfl, unhide BB⟩
end Go.Proofs.Ytecognggnbopaac
