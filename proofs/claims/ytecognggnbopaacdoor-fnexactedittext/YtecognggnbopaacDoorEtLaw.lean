/- The walk of FnExactEditText. Made by gen_edit.py. -/
import Derived.Test.YtecognggnbopaacDoorEtPlain
import Derived.Test.YtecognggnbopaacDoorEdLaw
namespace Go.Proofs.YtecognggnbopaacDoor
open Go.RowKit Go.ChangeShapes Go.WideShapes Go.ChangeAt Go.Deep
open Plain
set_option linter.unusedVariables false
set_option linter.unusedSimpArgs false

set_option maxHeartbeats 4000000 in
set_option maxRecDepth 100000 in
theorem FnExactEditText_walk (e : Ed) (a : Option Addr) (c : Nat) (w : World) (h : ArgEd w.heap.size w a e)
    (CI : ∀ (v : Value) (B : Nat) (W : World), SmallEd 1048576 e → OwnR B W v e.set → Below w.heap.size w W → Calls Tryd.prog 7 #[edV e v] W fun x w' => x = .returned (.tuple #[.string (etV e).1, .bool (etV e).2]) ∧ Below W.heap.size W w')
    (SI : ∀ (v : Value) (B : Nat) (W : World), SmallEd 1048576 e → OwnR B W v e.set → Calls Tryd.prog 5 #[edV e v] W fun x w' => x = .returned (.tuple #[.string (etV e).1, .bool (etV e).2]) ∧ Below W.heap.size W w') :
    Calls Tryd.prog 3 #[.agg #[.int .i64 e.kind, .string e.box, .string e.dst, .slice a e.set.length c, .int .i64 e.how, .int .i64 e.bits, .int .i64 e.since, .string e.text]] w fun x w' => x = .returned (.bool true) ∧ Below w.heap.size w w' := by
  obtain ⟨⟨ys, yb⟩, hY⟩ : ∃ Y, Y = etV e := ⟨_, rfl⟩
  rw [← hY] at CI SI
  have HA := hide h
  have CH := hide CI
  have SH := hide SI
  clear h CI SI hY
  have BB := hide (Below.refl w.heap.size w)
  obtain ⟨wl1, hA⟩ : ∃ X, X = w.alloc (.cells ([.int .i64 e.kind, .string e.box, .string e.dst, .slice a e.set.length c, .int .i64 e.how, .int .i64 e.bits, .int .i64 e.since, .string e.text] : List Value).toArray 24) := ⟨_, rfl⟩
  have Ax : HasObj wl1 w.heap.size 24 [.int .i64 e.kind, .string e.box, .string e.dst, .slice a e.set.length c, .int .i64 e.how, .int .i64 e.bits, .int .i64 e.since, .string e.text] := by rw [hA]; exact HasObj.new _ _ _
  have hbn : Below w.heap.size w wl1 := by rw [hA]; exact (Below.refl _ _).alloc (Nat.le_refl _) _
  have loA : w.heap.size ≤ w.heap.size := (unhide BB).size
  have EA := hA.symm
  clear hA
  have sz1 := hide (hbn.size)
  have BB_ := hide (below_y (unhide BB) hbn)
  clear BB
  have BB := BB_
  clear BB_
  clear hbn
  have A := hide Ax
  clear Ax
  have Ac0_1 := (unhide A).cell 0 rfl
  have Ac1_1 := (unhide A).cell 1 rfl
  have Ac2_1 := (unhide A).cell 2 rfl
  have Ac3_1 := (unhide A).cell 3 rfl
  have Ac4_1 := (unhide A).cell 4 rfl
  have Ac5_1 := (unhide A).cell 5 rfl
  have Ac6_1 := (unhide A).cell 6 rfl
  have Ac7_1 := (unhide A).cell 7 rfl
  go_enter Tryd.func3, Tryd.ntmps3
  go_wp2_with fail
  clear Ac0_1 Ac1_1 Ac2_1 Ac3_1 Ac4_1 Ac5_1 Ac6_1 Ac7_1 EA
  refine (szEdit_any e a c _ ((unhide HA).up (unhide BB))).mono ?_
  rintro x wl2 ⟨⟨m, rfl, hm⟩, hb⟩
  have A_ := hide ((unhide A).ups hb)
  clear A
  have A := A_
  clear A_
  have sz2 := hide (hb.size)
  have BB_ := hide (below_y (unhide BB) hb)
  clear BB
  have BB := BB_
  clear BB_
  clear hb
  rcases hm with rfl | ⟨q, rfl, hq, hs⟩
  · go_wp2
    go_ret
    exact ⟨rfl, unhide BB⟩
  · have SM := hide hs
    have i1 : ¬ (q : Int) < 0 := by omega
    clear hs
    have Ac0_2 := (unhide A).cell 0 rfl
    have Ac1_2 := (unhide A).cell 1 rfl
    have Ac2_2 := (unhide A).cell 2 rfl
    have Ac3_2 := (unhide A).cell 3 rfl
    have Ac4_2 := (unhide A).cell 4 rfl
    have Ac5_2 := (unhide A).cell 5 rfl
    have Ac6_2 := (unhide A).cell 6 rfl
    have Ac7_2 := (unhide A).cell 7 rfl
    go_wp2_with fail
    clear Ac0_2 Ac1_2 Ac2_2 Ac3_2 Ac4_2 Ac5_2 Ac6_2 Ac7_2
    refine (toEdit_any e a c _ (unhide SM) ((unhide HA).up (unhide BB))).mono ?_
    rintro x wm3 ⟨vS, rfl, oS, hb⟩
    obtain ⟨aS, cS, rfl⟩ := g_shape oS
    have OS_ := hide oS
    clear oS
    have A_ := hide ((unhide A).ups hb)
    clear A
    have A := A_
    clear A_
    have sz3 := hide (hb.size)
    have BB_ := hide (below_y (unhide BB) hb)
    clear BB
    have BB := BB_
    clear BB_
    clear hb
    have OS := OS_
    clear OS_
    go_wp2_with fail
    refine (unhide SH _ _ _ (unhide SM) (unhide OS)).mono ?_
    rintro e wm4 ⟨rfl, hb⟩
    have A_ := hide ((unhide A).ups hb)
    clear A
    have A := A_
    clear A_
    have OS_ := hide ((unhide OS).up hb)
    clear OS
    have OS := OS_
    clear OS_
    have sz4 := hide (hb.size)
    have BB_ := hide (below_y (unhide BB) hb)
    clear BB
    have BB := BB_
    clear BB_
    clear hb
    simp only
    have Ac0_3 := (unhide A).cell 0 rfl
    have Ac1_3 := (unhide A).cell 1 rfl
    have Ac2_3 := (unhide A).cell 2 rfl
    have Ac3_3 := (unhide A).cell 3 rfl
    have Ac4_3 := (unhide A).cell 4 rfl
    have Ac5_3 := (unhide A).cell 5 rfl
    have Ac6_3 := (unhide A).cell 6 rfl
    have Ac7_3 := (unhide A).cell 7 rfl
    go_wp2_with fail
    clear Ac0_3 Ac1_3 Ac2_3 Ac3_3 Ac4_3 Ac5_3 Ac6_3 Ac7_3
    refine (toEdit_any e a c _ (unhide SM) ((unhide HA).up (unhide BB))).mono ?_
    rintro x wm5 ⟨vX, rfl, oX, hb⟩
    obtain ⟨aX, cX, rfl⟩ := g_shape oX
    have OX_ := hide oX
    clear oX
    have A_ := hide ((unhide A).ups hb)
    clear A
    have A := A_
    clear A_
    have OS_ := hide ((unhide OS).up hb)
    clear OS
    have OS := OS_
    clear OS_
    have sz5 := hide (hb.size)
    have BB_ := hide (below_y (unhide BB) hb)
    clear BB
    have BB := BB_
    clear BB_
    clear hb
    have OX := OX_
    clear OX_
    obtain ⟨wm6, hX⟩ : ∃ X, X = wm5.alloc (.cells ([.int .i64 e.kind, .string e.box, .string e.dst, .slice aX e.set.length cX, .int .i64 e.how, .int .i64 e.bits, .int .i64 e.since, .string e.text] : List Value).toArray 30) := ⟨_, rfl⟩
    have Xx : HasObj wm6 wm5.heap.size 30 [.int .i64 e.kind, .string e.box, .string e.dst, .slice aX e.set.length cX, .int .i64 e.how, .int .i64 e.bits, .int .i64 e.since, .string e.text] := by rw [hX]; exact HasObj.new _ _ _
    have hbn : Below wm5.heap.size wm5 wm6 := by rw [hX]; exact (Below.refl _ _).alloc (Nat.le_refl _) _
    have neAX : w.heap.size ≠ wm5.heap.size := Nat.ne_of_lt (unhide A).lt
    have loX : w.heap.size ≤ wm5.heap.size := (unhide BB).size
    have EX := hX.symm
    clear hX
    have A_ := hide ((unhide A).ups hbn)
    clear A
    have A := A_
    clear A_
    have OS_ := hide ((unhide OS).up hbn)
    clear OS
    have OS := OS_
    clear OS_
    have OX_ := hide ((unhide OX).up hbn)
    clear OX
    have OX := OX_
    clear OX_
    have sz6 := hide (hbn.size)
    have BB_ := hide (below_y (unhide BB) hbn)
    clear BB
    have BB := BB_
    clear BB_
    clear hbn
    have X := hide Xx
    clear Xx
    have Xc0_4 := (unhide X).cell 0 rfl
    have Xc1_4 := (unhide X).cell 1 rfl
    have Xc2_4 := (unhide X).cell 2 rfl
    have Xc3_4 := (unhide X).cell 3 rfl
    have Xc4_4 := (unhide X).cell 4 rfl
    have Xc5_4 := (unhide X).cell 5 rfl
    have Xc6_4 := (unhide X).cell 6 rfl
    have Xc7_4 := (unhide X).cell 7 rfl
    go_wp2_with fail
    clear Xc0_4 Xc1_4 Xc2_4 Xc3_4 Xc4_4 Xc5_4 Xc6_4 Xc7_4 EX
    refine (unhide CH _ _ _ (unhide SM) (unhide OX) (unhide BB)).mono ?_
    rintro e wm7 ⟨rfl, hb⟩
    have A_ := hide ((unhide A).ups hb)
    clear A
    have A := A_
    clear A_
    have X_ := hide ((unhide X).ups hb)
    clear X
    have X := X_
    clear X_
    have OS_ := hide ((unhide OS).up hb)
    clear OS
    have OS := OS_
    clear OS_
    have OX_ := hide ((unhide OX).up hb)
    clear OX
    have OX := OX_
    clear OX_
    have sz7 := hide (hb.size)
    have BB_ := hide (below_y (unhide BB) hb)
    clear BB
    have BB := BB_
    clear BB_
    clear hb
    simp only
    have Ac0_5 := (unhide A).cell 0 rfl
    have Ac1_5 := (unhide A).cell 1 rfl
    have Ac2_5 := (unhide A).cell 2 rfl
    have Ac3_5 := (unhide A).cell 3 rfl
    have Ac4_5 := (unhide A).cell 4 rfl
    have Ac5_5 := (unhide A).cell 5 rfl
    have Ac6_5 := (unhide A).cell 6 rfl
    have Ac7_5 := (unhide A).cell 7 rfl
    have Xc0_6 := (unhide X).cell 0 rfl
    have Xc1_6 := (unhide X).cell 1 rfl
    have Xc2_6 := (unhide X).cell 2 rfl
    have Xc3_6 := (unhide X).cell 3 rfl
    have Xc4_6 := (unhide X).cell 4 rfl
    have Xc5_6 := (unhide X).cell 5 rfl
    have Xc6_6 := (unhide X).cell 6 rfl
    have Xc7_6 := (unhide X).cell 7 rfl
    go_wp2
    clear Ac0_5 Ac1_5 Ac2_5 Ac3_5 Ac4_5 Ac5_5 Ac6_5 Ac7_5 Xc0_6 Xc1_6 Xc2_6 Xc3_6 Xc4_6 Xc5_6 Xc6_6 Xc7_6
    refine wp_region_held_drew (S := fun w' => w'.cell? ⟨wm5.heap.size, 0, none⟩ = some (.int .i64 e.kind) ∧ w'.cell? ⟨wm5.heap.size, 1, none⟩ = some (.string e.box) ∧ w'.cell? ⟨wm5.heap.size, 2, none⟩ = some (.string e.dst) ∧ w'.cell? ⟨wm5.heap.size, 3, none⟩ = some (.slice aX e.set.length cX) ∧ w'.cell? ⟨wm5.heap.size, 4, none⟩ = some (.int .i64 e.how) ∧ w'.cell? ⟨wm5.heap.size, 5, none⟩ = some (.int .i64 e.bits) ∧ w'.cell? ⟨wm5.heap.size, 6, none⟩ = some (.int .i64 e.since) ∧ w'.cell? ⟨wm5.heap.size, 7, none⟩ = some (.string e.text) ∧ w'.cell? ⟨w.heap.size, 0, none⟩ = some (.int .i64 e.kind) ∧ w'.cell? ⟨w.heap.size, 1, none⟩ = some (.string e.box) ∧ w'.cell? ⟨w.heap.size, 2, none⟩ = some (.string e.dst) ∧ w'.cell? ⟨w.heap.size, 3, none⟩ = some (.slice a e.set.length c) ∧ w'.cell? ⟨w.heap.size, 4, none⟩ = some (.int .i64 e.how) ∧ w'.cell? ⟨w.heap.size, 5, none⟩ = some (.int .i64 e.bits) ∧ w'.cell? ⟨w.heap.size, 6, none⟩ = some (.int .i64 e.since) ∧ w'.cell? ⟨w.heap.size, 7, none⟩ = some (.string e.text)) (by kernel_rfl) (⟨(unhide X).cell 0 rfl, (unhide X).cell 1 rfl, (unhide X).cell 2 rfl, (unhide X).cell 3 rfl, (unhide X).cell 4 rfl, (unhide X).cell 5 rfl, (unhide X).cell 6 rfl, (unhide X).cell 7 rfl, (unhide A).cell 0 rfl, (unhide A).cell 1 rfl, (unhide A).cell 2 rfl, (unhide A).cell 3 rfl, (unhide A).cell 4 rfl, (unhide A).cell 5 rfl, (unhide A).cell 6 rfl, (unhide A).cell 7 rfl⟩) (fun hHeld => ?_)
    have A_ := hide ((unhide A).drew)
    clear A
    have A := A_
    clear A_
    have X_ := hide ((unhide X).drew)
    clear X
    have X := X_
    clear X_
    have OS_ := hide ((unhide OS).drew)
    clear OS
    have OS := OS_
    clear OS_
    have OX_ := hide ((unhide OX).drew)
    clear OX
    have OX := OX_
    clear OX_
    have BB_ := hide ((unhide BB).drew)
    clear BB
    have BB := BB_
    clear BB_
    have sz8 : Hid (wm7.heap.size ≤ wm7.drew.heap.size) := Nat.le_refl _
    refine takeVal 0 (some 35) ?_ rfl (by kernel_rfl) (by kernel_rfl) (by kernel_rfl) rfl (fun _ _ _ h => h) (by rfl) (by assumption) ?_ ?_
    rotate_left
    · (intro w hSw; (try dsimp only at hSw); go_simp <;> with_reducible rfl)
    simp only [Act.put, List.setIfInBounds_toArray, List.set_cons_zero, List.set_cons_succ]
    refine takeVal 1 (some 36) ?_ rfl (by kernel_rfl) (by kernel_rfl) (by kernel_rfl) rfl (fun _ _ _ h => h) (by rfl) (by assumption) ?_ ?_
    rotate_left
    · (intro w hSw; (try dsimp only at hSw); go_simp <;> with_reducible rfl)
    simp only [Act.put, List.setIfInBounds_toArray, List.set_cons_zero, List.set_cons_succ]
    refine wpAnyH_ready (rs := [2]) (by kernel_rfl) (by simp) ?_
    refine AllReadyH.cons rfl (fun K hK => ?_) AllReadyH.nil
    go_simp
    refine (toEdit_any e a c _ (unhide SM) ((unhide HA).up (unhide BB))).mono ?_
    rintro e wm8 ⟨vC, rfl, oC, hb⟩
    obtain ⟨aC, cC, rfl⟩ := g_shape oC
    have OC := hide oC
    clear oC
    have A_ := hide ((unhide A).ups hb)
    clear A
    have A := A_
    clear A_
    have X_ := hide ((unhide X).ups hb)
    clear X
    have X := X_
    clear X_
    have OS_ := hide ((unhide OS).up hb)
    clear OS
    have OS := OS_
    clear OS_
    have OX_ := hide ((unhide OX).up hb)
    clear OX
    have OX := OX_
    clear OX_
    have sz9 := hide (hb.size)
    have BB_ := hide (below_y (unhide BB) hb)
    clear BB
    have BB := BB_
    clear BB_
    clear hb
    go_wp2_with fail
    refine hK.out _ _ (⟨(unhide X).cell 0 rfl, (unhide X).cell 1 rfl, (unhide X).cell 2 rfl, (unhide X).cell 3 rfl, (unhide X).cell 4 rfl, (unhide X).cell 5 rfl, (unhide X).cell 6 rfl, (unhide X).cell 7 rfl, (unhide A).cell 0 rfl, (unhide A).cell 1 rfl, (unhide A).cell 2 rfl, (unhide A).cell 3 rfl, (unhide A).cell 4 rfl, (unhide A).cell 5 rfl, (unhide A).cell 6 rfl, (unhide A).cell 7 rfl⟩) (fun hHeld2 => ?_)
    clear hK K hHeld
    have hHeld := hHeld2; clear hHeld2
    try simp only [Act.put, List.setIfInBounds_toArray, List.set_cons_zero, List.set_cons_succ]
    refine wpAnyH_ready (rs := [3]) (by kernel_rfl) (by simp) ?_
    refine AllReadyH.cons rfl (fun K hK => ?_) AllReadyH.nil
    go_simp
    refine (eqEdit_same e _ _ _ _ _ (unhide SM).set (unhide OX) (unhide OC)).mono ?_
    rintro e wm9 ⟨rfl, hb⟩
    have A_ := hide ((unhide A).ups hb)
    clear A
    have A := A_
    clear A_
    have X_ := hide ((unhide X).ups hb)
    clear X
    have X := X_
    clear X_
    have OS_ := hide ((unhide OS).up hb)
    clear OS
    have OS := OS_
    clear OS_
    have OX_ := hide ((unhide OX).up hb)
    clear OX
    have OX := OX_
    clear OX_
    have sz10 := hide (hb.size)
    have BB_ := hide (below_y (unhide BB) hb)
    clear BB
    have BB := BB_
    clear BB_
    clear hb
    go_wp2_with fail
    refine hK.out _ _ (⟨(unhide X).cell 0 rfl, (unhide X).cell 1 rfl, (unhide X).cell 2 rfl, (unhide X).cell 3 rfl, (unhide X).cell 4 rfl, (unhide X).cell 5 rfl, (unhide X).cell 6 rfl, (unhide X).cell 7 rfl, (unhide A).cell 0 rfl, (unhide A).cell 1 rfl, (unhide A).cell 2 rfl, (unhide A).cell 3 rfl, (unhide A).cell 4 rfl, (unhide A).cell 5 rfl, (unhide A).cell 6 rfl, (unhide A).cell 7 rfl⟩) (fun hHeld2 => ?_)
    clear hK K hHeld
    have hHeld := hHeld2; clear hHeld2
    try simp only [Act.put, List.setIfInBounds_toArray, List.set_cons_zero, List.set_cons_succ]
    refine takeVal 4 (some 39) ?_ rfl (by kernel_rfl) (by kernel_rfl) (by kernel_rfl) rfl (fun _ _ _ h => h) (by rfl) (by assumption) ?_ ?_
    rotate_left
    · (intro w hSw; (try dsimp only at hSw); go_simp <;> with_reducible rfl)
    simp only [Act.put, List.setIfInBounds_toArray, List.set_cons_zero, List.set_cons_succ]
    refine wpAnyH_done (by kernel_rfl) ?_ _
    go_wp2
    go_ret
    exact ⟨rfl, unhide BB⟩
end Go.Proofs.YtecognggnbopaacDoor
