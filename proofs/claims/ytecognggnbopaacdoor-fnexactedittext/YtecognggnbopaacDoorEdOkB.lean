/- The program's EditOk. Made by gen_edit.py. -/
import Derived.Test.YtecognggnbopaacDoorEdDeed
import Derived.Test.YtecognggnbopaacDoorEdRight
import Derived.Test.YtecognggnbopaacDoorEdSameA
import Derived.Test.YtecognggnbopaacDoorEdSameB
namespace Go.Proofs.YtecognggnbopaacDoor
open Go.RowKit Go.ChangeShapes Go.WideShapes Go.ChangeAt Go.Deep
open Plain
set_option linter.unusedVariables false
set_option linter.unusedSimpArgs false

set_option maxHeartbeats 4000000 in
set_option maxRecDepth 100000 in
theorem okI5 (e : Ed) (a : Option Addr) (c : Nat) (w : World) (hk : e.kind = 5) (hs : SmallEd 1048576 e) (hr : ReadO w (.slice a e.set.length c) e.set) :
    Calls Tryd.prog 15 #[.agg #[.int .i64 e.kind, .string e.box, .string e.dst, .slice a e.set.length c, .int .i64 e.how, .int .i64 e.bits, .int .i64 e.since, .string e.text]] w fun x w' => x = .returned (.bool (nameOkL e.box.data.toList && (okS e.set) && (((((([] == e.dst.toList) && decide ((0 : Int) = e.how)) && decide ((0 : Int) = e.bits)) && decide ((0 : Int) = e.since)) && ([] == e.text.toList))))) ∧ Below w.heap.size w w' := by
  obtain ⟨Z, hZ⟩ : ∃ Z, Z = (nameOkL e.box.data.toList && (okS e.set) && (((((([] == e.dst.toList) && decide ((0 : Int) = e.how)) && decide ((0 : Int) = e.bits)) && decide ((0 : Int) = e.since)) && ([] == e.text.toList)))) := ⟨_, rfl⟩
  rw [← hZ, hk]
  have SM := hide hs
  have RS := hide hr
  have HZ := hide hZ
  have DD := hide (fun W => deed5 e a c W hk)
  rw [hk] at DD
  clear hs hr hZ hk
  have BB := hide (Below.refl w.heap.size w)
  obtain ⟨wk1, hA⟩ : ∃ X, X = w.alloc (.cells ([.int .i64 5, .string e.box, .string e.dst, .slice a e.set.length c, .int .i64 e.how, .int .i64 e.bits, .int .i64 e.since, .string e.text] : List Value).toArray 30) := ⟨_, rfl⟩
  have Ax : HasObj wk1 w.heap.size 30 [.int .i64 5, .string e.box, .string e.dst, .slice a e.set.length c, .int .i64 e.how, .int .i64 e.bits, .int .i64 e.since, .string e.text] := by rw [hA]; exact HasObj.new _ _ _
  have hbn : Below w.heap.size w wk1 := by rw [hA]; exact (Below.refl _ _).alloc (Nat.le_refl _) _
  have loA : w.heap.size ≤ w.heap.size := (unhide BB).size
  have EA := hA.symm
  clear hA
  have RS_ := hide ((unhide RS).up hbn)
  clear RS
  have RS := RS_
  clear RS_
  have sz1 := hide (hbn.size)
  have BB_ := hide (below_y (unhide BB) hbn)
  clear BB
  have BB := BB_
  clear BB_
  clear hbn
  have A := hide Ax
  clear Ax
  have Ac0_1 := (unhide A).cell 0 rfl
  have Ac1_1 := (unhide A).cell 1 rfl
  have Ac2_1 := (unhide A).cell 2 rfl
  have Ac3_1 := (unhide A).cell 3 rfl
  have Ac4_1 := (unhide A).cell 4 rfl
  have Ac5_1 := (unhide A).cell 5 rfl
  have Ac6_1 := (unhide A).cell 6 rfl
  have Ac7_1 := (unhide A).cell 7 rfl
  go_enter Tryd.func15, Tryd.ntmps15
  go_wp2_with fail
  clear Ac0_1 Ac1_1 Ac2_1 Ac3_1 Ac4_1 Ac5_1 Ac6_1 Ac7_1 EA
  refine (unhide DD _).mono ?_
  rintro e wk2 ⟨rfl, hb⟩
  have A_ := hide ((unhide A).ups hb)
  clear A
  have A := A_
  clear A_
  have RS_ := hide ((unhide RS).up hb)
  clear RS
  have RS := RS_
  clear RS_
  have sz2 := hide (hb.size)
  have BB_ := hide (below_y (unhide BB) hb)
  clear BB
  have BB := BB_
  clear BB_
  clear hb
  clear DD
  go_wp2
  refine wp_region_held_drew (S := fun w' => w'.cell? ⟨w.heap.size, 0, none⟩ = some (.int .i64 5) ∧ w'.cell? ⟨w.heap.size, 1, none⟩ = some (.string e.box) ∧ w'.cell? ⟨w.heap.size, 2, none⟩ = some (.string e.dst) ∧ w'.cell? ⟨w.heap.size, 3, none⟩ = some (.slice a e.set.length c) ∧ w'.cell? ⟨w.heap.size, 4, none⟩ = some (.int .i64 e.how) ∧ w'.cell? ⟨w.heap.size, 5, none⟩ = some (.int .i64 e.bits) ∧ w'.cell? ⟨w.heap.size, 6, none⟩ = some (.int .i64 e.since) ∧ w'.cell? ⟨w.heap.size, 7, none⟩ = some (.string e.text)) (by kernel_rfl) (⟨(unhide A).cell 0 rfl, (unhide A).cell 1 rfl, (unhide A).cell 2 rfl, (unhide A).cell 3 rfl, (unhide A).cell 4 rfl, (unhide A).cell 5 rfl, (unhide A).cell 6 rfl, (unhide A).cell 7 rfl⟩) (fun hHeld => ?_)
  have A_ := hide ((unhide A).drew)
  clear A
  have A := A_
  clear A_
  have RS_ := hide ((unhide RS).drew)
  clear RS
  have RS := RS_
  clear RS_
  have BB_ := hide ((unhide BB).drew)
  clear BB
  have BB := BB_
  clear BB_
  have sz3 : Hid (wk2.heap.size ≤ wk2.drew.heap.size) := Nat.le_refl _
  refine takeVal 0 (some 6) ?_ rfl (by kernel_rfl) (by kernel_rfl) (by kernel_rfl) rfl (fun _ _ _ h => h) (by rfl) (by assumption) ?_ ?_
  rotate_left
  · (intro w hSw; (try dsimp only at hSw); go_simp <;> with_reducible rfl)
  simp only [Act.put, List.setIfInBounds_toArray, List.set_cons_zero, List.set_cons_succ]
  refine takeVal 1 (some 7) ?_ rfl (by kernel_rfl) (by kernel_rfl) (by kernel_rfl) rfl (fun _ _ _ h => h) (by rfl) (by assumption) ?_ ?_
  rotate_left
  · (intro w hSw; (try dsimp only at hSw); go_simp <;> with_reducible rfl)
  simp only [Act.put, List.setIfInBounds_toArray, List.set_cons_zero, List.set_cons_succ]
  refine takeVal 2 (some 8) ?_ rfl (by kernel_rfl) (by kernel_rfl) (by kernel_rfl) rfl (fun _ _ _ h => h) (by rfl) (by assumption) ?_ ?_
  rotate_left
  · (intro w hSw; (try dsimp only at hSw); go_simp <;> with_reducible rfl)
  simp only [Act.put, List.setIfInBounds_toArray, List.set_cons_zero, List.set_cons_succ]
  refine takeVal 3 (some 9) ?_ rfl (by kernel_rfl) (by kernel_rfl) (by kernel_rfl) rfl (fun _ _ _ h => h) (by rfl) (by assumption) ?_ ?_
  rotate_left
  · (intro w hSw; (try dsimp only at hSw); go_simp <;> with_reducible rfl)
  simp only [Act.put, List.setIfInBounds_toArray, List.set_cons_zero, List.set_cons_succ]
  refine takeVal 4 (some 10) ?_ rfl (by kernel_rfl) (by kernel_rfl) (by kernel_rfl) rfl (fun _ _ _ h => h) (by rfl) (by assumption) ?_ ?_
  rotate_left
  · (intro w hSw; (try dsimp only at hSw); go_simp <;> with_reducible rfl)
  simp only [Act.put, List.setIfInBounds_toArray, List.set_cons_zero, List.set_cons_succ]
  refine wpAnyH_ready (rs := [5]) (by kernel_rfl) (by simp) ?_
  refine AllReadyH.cons rfl (fun K hK => ?_) AllReadyH.nil
  go_simp
  refine (impl_BoxName_any e.box _ (unhide SM).box).mono ?_
  rintro e wk3 ⟨rfl, hb⟩
  have A_ := hide ((unhide A).ups hb)
  clear A
  have A := A_
  clear A_
  have RS_ := hide ((unhide RS).up hb)
  clear RS
  have RS := RS_
  clear RS_
  have sz4 := hide (hb.size)
  have BB_ := hide (below_y (unhide BB) hb)
  clear BB
  have BB := BB_
  clear BB_
  clear hb
  go_wp2_with fail
  refine hK.out _ _ (⟨(unhide A).cell 0 rfl, (unhide A).cell 1 rfl, (unhide A).cell 2 rfl, (unhide A).cell 3 rfl, (unhide A).cell 4 rfl, (unhide A).cell 5 rfl, (unhide A).cell 6 rfl, (unhide A).cell 7 rfl⟩) (fun hHeld2 => ?_)
  clear hK K hHeld
  have hHeld := hHeld2; clear hHeld2
  try simp only [Act.put, List.setIfInBounds_toArray, List.set_cons_zero, List.set_cons_succ]
  cases h1 : nameOkL e.box.data.toList with
  | false =>
    refine takeVal 6 (some 12) ?_ rfl (by kernel_rfl) (by kernel_rfl) (by kernel_rfl) rfl (fun _ _ _ h => h) (by rfl) (by assumption) ?_ ?_
    rotate_left
    · (intro w hSw; (try dsimp only at hSw); go_simp <;> with_reducible rfl)
    simp only [Act.put, List.setIfInBounds_toArray, List.set_cons_zero, List.set_cons_succ]
    refine takeVal 7 (some 13) ?_ rfl (by kernel_rfl) (by kernel_rfl) (by kernel_rfl) rfl (fun _ _ _ h => h) (by rfl) (by assumption) ?_ ?_
    rotate_left
    · (intro w hSw; (try dsimp only at hSw); go_simp <;> with_reducible rfl)
    simp only [Act.put, List.setIfInBounds_toArray, List.set_cons_zero, List.set_cons_succ]
    refine takeSkip 8 (some 14) rfl (by kernel_rfl) (by kernel_rfl) (by kernel_rfl) rfl (fun _ _ _ h => h) (by rfl) (by assumption) ?_
    simp only [Act.put, List.setIfInBounds_toArray, List.set_cons_zero, List.set_cons_succ]
    refine takeSkip 9 (some 15) rfl (by kernel_rfl) (by kernel_rfl) (by kernel_rfl) rfl (fun _ _ _ h => h) (by rfl) (by assumption) ?_
    simp only [Act.put, List.setIfInBounds_toArray, List.set_cons_zero, List.set_cons_succ]
    refine takeVal 10 (some 16) ?_ rfl (by kernel_rfl) (by kernel_rfl) (by kernel_rfl) rfl (fun _ _ _ h => h) (by rfl) (by assumption) ?_ ?_
    rotate_left
    · (intro w hSw; (try dsimp only at hSw); go_simp <;> with_reducible rfl)
    simp only [Act.put, List.setIfInBounds_toArray, List.set_cons_zero, List.set_cons_succ]
    refine takeVal 11 (some 17) ?_ rfl (by kernel_rfl) (by kernel_rfl) (by kernel_rfl) rfl (fun _ _ _ h => h) (by rfl) (by assumption) ?_ ?_
    rotate_left
    · (intro w hSw; (try dsimp only at hSw); go_simp <;> with_reducible rfl)
    simp only [Act.put, List.setIfInBounds_toArray, List.set_cons_zero, List.set_cons_succ]
    refine takeSkip 12 (some 18) rfl (by kernel_rfl) (by kernel_rfl) (by kernel_rfl) rfl (fun _ _ _ h => h) (by rfl) (by assumption) ?_
    simp only [Act.put, List.setIfInBounds_toArray, List.set_cons_zero, List.set_cons_succ]
    refine takeSkip 13 (some 19) rfl (by kernel_rfl) (by kernel_rfl) (by kernel_rfl) rfl (fun _ _ _ h => h) (by rfl) (by assumption) ?_
    simp only [Act.put, List.setIfInBounds_toArray, List.set_cons_zero, List.set_cons_succ]
    refine takeSkip 14 (some 20) rfl (by kernel_rfl) (by kernel_rfl) (by kernel_rfl) rfl (fun _ _ _ h => h) (by rfl) (by assumption) ?_
    simp only [Act.put, List.setIfInBounds_toArray, List.set_cons_zero, List.set_cons_succ]
    refine takeSkip 15 (some 21) rfl (by kernel_rfl) (by kernel_rfl) (by kernel_rfl) rfl (fun _ _ _ h => h) (by rfl) (by assumption) ?_
    simp only [Act.put, List.setIfInBounds_toArray, List.set_cons_zero, List.set_cons_succ]
    refine takeVal 16 (some 22) ?_ rfl (by kernel_rfl) (by kernel_rfl) (by kernel_rfl) rfl (fun _ _ _ h => h) (by rfl) (by assumption) ?_ ?_
    rotate_left
    · (intro w hSw; (try dsimp only at hSw); go_simp <;> with_reducible rfl)
    simp only [Act.put, List.setIfInBounds_toArray, List.set_cons_zero, List.set_cons_succ]
    refine takeVal 17 (some 2) ?_ rfl (by kernel_rfl) (by kernel_rfl) (by kernel_rfl) rfl (fun _ _ _ h => h) (by rfl) (by assumption) ?_ ?_
    rotate_left
    · (intro w hSw; (try dsimp only at hSw); go_simp <;> with_reducible rfl)
    simp only [Act.put, List.setIfInBounds_toArray, List.set_cons_zero, List.set_cons_succ]
    have hA : Z = false := by rw [unhide HZ]; simp [h1]
    clear HZ
    subst hA
    refine wpAnyH_done (by kernel_rfl) ?_ _
    go_wp2
    go_ret
    exact ⟨rfl, unhide BB⟩
  | true =>
    refine takeVal 6 (some 12) ?_ rfl (by kernel_rfl) (by kernel_rfl) (by kernel_rfl) rfl (fun _ _ _ h => h) (by rfl) (by assumption) ?_ ?_
    rotate_left
    · (intro w hSw; (try dsimp only at hSw); go_simp <;> with_reducible rfl)
    simp only [Act.put, List.setIfInBounds_toArray, List.set_cons_zero, List.set_cons_succ]
    refine takeVal 7 (some 13) ?_ rfl (by kernel_rfl) (by kernel_rfl) (by kernel_rfl) rfl (fun _ _ _ h => h) (by rfl) (by assumption) ?_ ?_
    rotate_left
    · (intro w hSw; (try dsimp only at hSw); go_simp <;> with_reducible rfl)
    simp only [Act.put, List.setIfInBounds_toArray, List.set_cons_zero, List.set_cons_succ]
    refine takeVal 8 (some 14) ?_ rfl (by kernel_rfl) (by kernel_rfl) (by kernel_rfl) rfl (fun _ _ _ h => h) (by rfl) (by assumption) ?_ ?_
    rotate_left
    · (intro w hSw; (try dsimp only at hSw); go_simp <;> with_reducible rfl)
    simp only [Act.put, List.setIfInBounds_toArray, List.set_cons_zero, List.set_cons_succ]
    refine wpAnyH_ready (rs := [9]) (by kernel_rfl) (by simp) ?_
    refine AllReadyH.cons rfl (fun K hK => ?_) AllReadyH.nil
    go_simp
    refine (right5 e a c _ (unhide SM) (unhide RS)).mono ?_
    rintro e wk4 ⟨rfl, hb⟩
    have A_ := hide ((unhide A).ups hb)
    clear A
    have A := A_
    clear A_
    have RS_ := hide ((unhide RS).up hb)
    clear RS
    have RS := RS_
    clear RS_
    have sz5 := hide (hb.size)
    have BB_ := hide (below_y (unhide BB) hb)
    clear BB
    have BB := BB_
    clear BB_
    clear hb
    go_wp2_with fail
    refine hK.out _ _ (⟨(unhide A).cell 0 rfl, (unhide A).cell 1 rfl, (unhide A).cell 2 rfl, (unhide A).cell 3 rfl, (unhide A).cell 4 rfl, (unhide A).cell 5 rfl, (unhide A).cell 6 rfl, (unhide A).cell 7 rfl⟩) (fun hHeld2 => ?_)
    clear hK K hHeld
    have hHeld := hHeld2; clear hHeld2
    try simp only [Act.put, List.setIfInBounds_toArray, List.set_cons_zero, List.set_cons_succ]
    cases h2 : (okS e.set) with
    | false =>
      refine takeVal 10 (some 16) ?_ rfl (by kernel_rfl) (by kernel_rfl) (by kernel_rfl) rfl (fun _ _ _ h => h) (by rfl) (by assumption) ?_ ?_
      rotate_left
      · (intro w hSw; (try dsimp only at hSw); go_simp <;> with_reducible rfl)
      simp only [Act.put, List.setIfInBounds_toArray, List.set_cons_zero, List.set_cons_succ]
      refine takeVal 11 (some 17) ?_ rfl (by kernel_rfl) (by kernel_rfl) (by kernel_rfl) rfl (fun _ _ _ h => h) (by rfl) (by assumption) ?_ ?_
      rotate_left
      · (intro w hSw; (try dsimp only at hSw); go_simp <;> with_reducible rfl)
      simp only [Act.put, List.setIfInBounds_toArray, List.set_cons_zero, List.set_cons_succ]
      refine takeSkip 12 (some 18) rfl (by kernel_rfl) (by kernel_rfl) (by kernel_rfl) rfl (fun _ _ _ h => h) (by rfl) (by assumption) ?_
      simp only [Act.put, List.setIfInBounds_toArray, List.set_cons_zero, List.set_cons_succ]
      refine takeSkip 13 (some 19) rfl (by kernel_rfl) (by kernel_rfl) (by kernel_rfl) rfl (fun _ _ _ h => h) (by rfl) (by assumption) ?_
      simp only [Act.put, List.setIfInBounds_toArray, List.set_cons_zero, List.set_cons_succ]
      refine takeSkip 14 (some 20) rfl (by kernel_rfl) (by kernel_rfl) (by kernel_rfl) rfl (fun _ _ _ h => h) (by rfl) (by assumption) ?_
      simp only [Act.put, List.setIfInBounds_toArray, List.set_cons_zero, List.set_cons_succ]
      refine takeSkip 15 (some 21) rfl (by kernel_rfl) (by kernel_rfl) (by kernel_rfl) rfl (fun _ _ _ h => h) (by rfl) (by assumption) ?_
      simp only [Act.put, List.setIfInBounds_toArray, List.set_cons_zero, List.set_cons_succ]
      refine takeVal 16 (some 22) ?_ rfl (by kernel_rfl) (by kernel_rfl) (by kernel_rfl) rfl (fun _ _ _ h => h) (by rfl) (by assumption) ?_ ?_
      rotate_left
      · (intro w hSw; (try dsimp only at hSw); go_simp <;> with_reducible rfl)
      simp only [Act.put, List.setIfInBounds_toArray, List.set_cons_zero, List.set_cons_succ]
      refine takeVal 17 (some 2) ?_ rfl (by kernel_rfl) (by kernel_rfl) (by kernel_rfl) rfl (fun _ _ _ h => h) (by rfl) (by assumption) ?_ ?_
      rotate_left
      · (intro w hSw; (try dsimp only at hSw); go_simp <;> with_reducible rfl)
      simp only [Act.put, List.setIfInBounds_toArray, List.set_cons_zero, List.set_cons_succ]
      have hA : Z = false := by rw [unhide HZ]; simp [h2]
      clear HZ
      subst hA
      refine wpAnyH_done (by kernel_rfl) ?_ _
      go_wp2
      go_ret
      exact ⟨rfl, unhide BB⟩
    | true =>
      refine takeVal 10 (some 16) ?_ rfl (by kernel_rfl) (by kernel_rfl) (by kernel_rfl) rfl (fun _ _ _ h => h) (by rfl) (by assumption) ?_ ?_
      rotate_left
      · (intro w hSw; (try dsimp only at hSw); go_simp <;> with_reducible rfl)
      simp only [Act.put, List.setIfInBounds_toArray, List.set_cons_zero, List.set_cons_succ]
      refine takeVal 11 (some 17) ?_ rfl (by kernel_rfl) (by kernel_rfl) (by kernel_rfl) rfl (fun _ _ _ h => h) (by rfl) (by assumption) ?_ ?_
      rotate_left
      · (intro w hSw; (try dsimp only at hSw); go_simp <;> with_reducible rfl)
      simp only [Act.put, List.setIfInBounds_toArray, List.set_cons_zero, List.set_cons_succ]
      refine takeVal 12 (some 18) ?_ rfl (by kernel_rfl) (by kernel_rfl) (by kernel_rfl) rfl (fun _ _ _ h => h) (by rfl) (by assumption) ?_ ?_
      rotate_left
      · (intro w hSw; (try dsimp only at hSw); go_simp <;> with_reducible rfl)
      simp only [Act.put, List.setIfInBounds_toArray, List.set_cons_zero, List.set_cons_succ]
      refine takeVal 14 (some 20) ?_ rfl (by kernel_rfl) (by kernel_rfl) (by kernel_rfl) rfl (fun _ _ _ h => h) (by rfl) (by assumption) ?_ ?_
      rotate_left
      · (intro w hSw; (try dsimp only at hSw); go_simp <;> with_reducible rfl)
      simp only [Act.put, List.setIfInBounds_toArray, List.set_cons_zero, List.set_cons_succ]
      refine wpAnyH_ready (rs := [13]) (by kernel_rfl) (by simp) ?_
      refine AllReadyH.cons rfl (fun K hK => ?_) AllReadyH.nil
      go_simp
      refine (edit5 e a c _).mono ?_
      rintro e wk5 ⟨rfl, hb⟩
      have A_ := hide ((unhide A).ups hb)
      clear A
      have A := A_
      clear A_
      have RS_ := hide ((unhide RS).up hb)
      clear RS
      have RS := RS_
      clear RS_
      have sz6 := hide (hb.size)
      have BB_ := hide (below_y (unhide BB) hb)
      clear BB
      have BB := BB_
      clear BB_
      clear hb
      go_wp2_with fail
      refine hK.out _ _ (⟨(unhide A).cell 0 rfl, (unhide A).cell 1 rfl, (unhide A).cell 2 rfl, (unhide A).cell 3 rfl, (unhide A).cell 4 rfl, (unhide A).cell 5 rfl, (unhide A).cell 6 rfl, (unhide A).cell 7 rfl⟩) (fun hHeld2 => ?_)
      clear hK K hHeld
      have hHeld := hHeld2; clear hHeld2
      try simp only [Act.put, List.setIfInBounds_toArray, List.set_cons_zero, List.set_cons_succ]
      refine wpAnyH_ready (rs := [15]) (by kernel_rfl) (by simp) ?_
      refine AllReadyH.cons rfl (fun K hK => ?_) AllReadyH.nil
      go_simp
      refine (same5 e.box e.dst e.text e.set e.how e.bits e.since a c _ (unhide SM).set (unhide RS)).mono ?_
      rintro e wk6 ⟨rfl, hb⟩
      obtain ⟨Y, hY⟩ : ∃ Y, Y = (((((([] == e.dst.toList) && decide ((0 : Int) = e.how)) && decide ((0 : Int) = e.bits)) && decide ((0 : Int) = e.since)) && ([] == e.text.toList))) := ⟨_, rfl⟩
      rw [← hY]
      have HY := hide hY
      clear hY
      have A_ := hide ((unhide A).ups hb)
      clear A
      have A := A_
      clear A_
      have RS_ := hide ((unhide RS).up hb)
      clear RS
      have RS := RS_
      clear RS_
      have sz7 := hide (hb.size)
      have BB_ := hide (below_y (unhide BB) hb)
      clear BB
      have BB := BB_
      clear BB_
      clear hb
      go_wp2_with fail
      refine hK.out _ _ (⟨(unhide A).cell 0 rfl, (unhide A).cell 1 rfl, (unhide A).cell 2 rfl, (unhide A).cell 3 rfl, (unhide A).cell 4 rfl, (unhide A).cell 5 rfl, (unhide A).cell 6 rfl, (unhide A).cell 7 rfl⟩) (fun hHeld2 => ?_)
      clear hK K hHeld
      have hHeld := hHeld2; clear hHeld2
      try simp only [Act.put, List.setIfInBounds_toArray, List.set_cons_zero, List.set_cons_succ]
      refine takeVal 16 (some 22) ?_ rfl (by kernel_rfl) (by kernel_rfl) (by kernel_rfl) rfl (fun _ _ _ h => h) (by rfl) (by assumption) ?_ ?_
      rotate_left
      · (intro w hSw; (try dsimp only at hSw); go_simp <;> with_reducible rfl)
      simp only [Act.put, List.setIfInBounds_toArray, List.set_cons_zero, List.set_cons_succ]
      refine takeVal 17 (some 2) ?_ rfl (by kernel_rfl) (by kernel_rfl) (by kernel_rfl) rfl (fun _ _ _ h => h) (by rfl) (by assumption) ?_ ?_
      rotate_left
      · (intro w hSw; (try dsimp only at hSw); go_simp <;> with_reducible rfl)
      simp only [Act.put, List.setIfInBounds_toArray, List.set_cons_zero, List.set_cons_succ]
      have hA : Z = Y := by rw [unhide HZ, unhide HY]; simp [h1, h2]
      clear HZ
      subst hA
      refine wpAnyH_done (by kernel_rfl) ?_ _
      go_wp2
      go_ret
      exact ⟨rfl, unhide BB⟩
set_option maxHeartbeats 4000000 in
set_option maxRecDepth 100000 in
theorem okI6 (e : Ed) (a : Option Addr) (c : Nat) (w : World) (hk : e.kind = 6) (hs : SmallEd 1048576 e) (hr : ReadO w (.slice a e.set.length c) e.set) :
    Calls Tryd.prog 15 #[.agg #[.int .i64 e.kind, .string e.box, .string e.dst, .slice a e.set.length c, .int .i64 e.how, .int .i64 e.bits, .int .i64 e.since, .string e.text]] w fun x w' => x = .returned (.bool (nameOkL e.box.data.toList && ((okS e.set && nameOkL e.dst.data.toList)) && ((((decide ((0 : Int) = e.how) && decide ((0 : Int) = e.bits)) && decide ((0 : Int) = e.since)) && ([] == e.text.toList))))) ∧ Below w.heap.size w w' := by
  obtain ⟨Z, hZ⟩ : ∃ Z, Z = (nameOkL e.box.data.toList && ((okS e.set && nameOkL e.dst.data.toList)) && ((((decide ((0 : Int) = e.how) && decide ((0 : Int) = e.bits)) && decide ((0 : Int) = e.since)) && ([] == e.text.toList)))) := ⟨_, rfl⟩
  rw [← hZ, hk]
  have SM := hide hs
  have RS := hide hr
  have HZ := hide hZ
  have DD := hide (fun W => deed6 e a c W hk)
  rw [hk] at DD
  clear hs hr hZ hk
  have BB := hide (Below.refl w.heap.size w)
  obtain ⟨wk1, hA⟩ : ∃ X, X = w.alloc (.cells ([.int .i64 6, .string e.box, .string e.dst, .slice a e.set.length c, .int .i64 e.how, .int .i64 e.bits, .int .i64 e.since, .string e.text] : List Value).toArray 30) := ⟨_, rfl⟩
  have Ax : HasObj wk1 w.heap.size 30 [.int .i64 6, .string e.box, .string e.dst, .slice a e.set.length c, .int .i64 e.how, .int .i64 e.bits, .int .i64 e.since, .string e.text] := by rw [hA]; exact HasObj.new _ _ _
  have hbn : Below w.heap.size w wk1 := by rw [hA]; exact (Below.refl _ _).alloc (Nat.le_refl _) _
  have loA : w.heap.size ≤ w.heap.size := (unhide BB).size
  have EA := hA.symm
  clear hA
  have RS_ := hide ((unhide RS).up hbn)
  clear RS
  have RS := RS_
  clear RS_
  have sz1 := hide (hbn.size)
  have BB_ := hide (below_y (unhide BB) hbn)
  clear BB
  have BB := BB_
  clear BB_
  clear hbn
  have A := hide Ax
  clear Ax
  have Ac0_1 := (unhide A).cell 0 rfl
  have Ac1_1 := (unhide A).cell 1 rfl
  have Ac2_1 := (unhide A).cell 2 rfl
  have Ac3_1 := (unhide A).cell 3 rfl
  have Ac4_1 := (unhide A).cell 4 rfl
  have Ac5_1 := (unhide A).cell 5 rfl
  have Ac6_1 := (unhide A).cell 6 rfl
  have Ac7_1 := (unhide A).cell 7 rfl
  go_enter Tryd.func15, Tryd.ntmps15
  go_wp2_with fail
  clear Ac0_1 Ac1_1 Ac2_1 Ac3_1 Ac4_1 Ac5_1 Ac6_1 Ac7_1 EA
  refine (unhide DD _).mono ?_
  rintro e wk2 ⟨rfl, hb⟩
  have A_ := hide ((unhide A).ups hb)
  clear A
  have A := A_
  clear A_
  have RS_ := hide ((unhide RS).up hb)
  clear RS
  have RS := RS_
  clear RS_
  have sz2 := hide (hb.size)
  have BB_ := hide (below_y (unhide BB) hb)
  clear BB
  have BB := BB_
  clear BB_
  clear hb
  clear DD
  go_wp2
  refine wp_region_held_drew (S := fun w' => w'.cell? ⟨w.heap.size, 0, none⟩ = some (.int .i64 6) ∧ w'.cell? ⟨w.heap.size, 1, none⟩ = some (.string e.box) ∧ w'.cell? ⟨w.heap.size, 2, none⟩ = some (.string e.dst) ∧ w'.cell? ⟨w.heap.size, 3, none⟩ = some (.slice a e.set.length c) ∧ w'.cell? ⟨w.heap.size, 4, none⟩ = some (.int .i64 e.how) ∧ w'.cell? ⟨w.heap.size, 5, none⟩ = some (.int .i64 e.bits) ∧ w'.cell? ⟨w.heap.size, 6, none⟩ = some (.int .i64 e.since) ∧ w'.cell? ⟨w.heap.size, 7, none⟩ = some (.string e.text)) (by kernel_rfl) (⟨(unhide A).cell 0 rfl, (unhide A).cell 1 rfl, (unhide A).cell 2 rfl, (unhide A).cell 3 rfl, (unhide A).cell 4 rfl, (unhide A).cell 5 rfl, (unhide A).cell 6 rfl, (unhide A).cell 7 rfl⟩) (fun hHeld => ?_)
  have A_ := hide ((unhide A).drew)
  clear A
  have A := A_
  clear A_
  have RS_ := hide ((unhide RS).drew)
  clear RS
  have RS := RS_
  clear RS_
  have BB_ := hide ((unhide BB).drew)
  clear BB
  have BB := BB_
  clear BB_
  have sz3 : Hid (wk2.heap.size ≤ wk2.drew.heap.size) := Nat.le_refl _
  refine takeVal 0 (some 6) ?_ rfl (by kernel_rfl) (by kernel_rfl) (by kernel_rfl) rfl (fun _ _ _ h => h) (by rfl) (by assumption) ?_ ?_
  rotate_left
  · (intro w hSw; (try dsimp only at hSw); go_simp <;> with_reducible rfl)
  simp only [Act.put, List.setIfInBounds_toArray, List.set_cons_zero, List.set_cons_succ]
  refine takeVal 1 (some 7) ?_ rfl (by kernel_rfl) (by kernel_rfl) (by kernel_rfl) rfl (fun _ _ _ h => h) (by rfl) (by assumption) ?_ ?_
  rotate_left
  · (intro w hSw; (try dsimp only at hSw); go_simp <;> with_reducible rfl)
  simp only [Act.put, List.setIfInBounds_toArray, List.set_cons_zero, List.set_cons_succ]
  refine takeVal 2 (some 8) ?_ rfl (by kernel_rfl) (by kernel_rfl) (by kernel_rfl) rfl (fun _ _ _ h => h) (by rfl) (by assumption) ?_ ?_
  rotate_left
  · (intro w hSw; (try dsimp only at hSw); go_simp <;> with_reducible rfl)
  simp only [Act.put, List.setIfInBounds_toArray, List.set_cons_zero, List.set_cons_succ]
  refine takeVal 3 (some 9) ?_ rfl (by kernel_rfl) (by kernel_rfl) (by kernel_rfl) rfl (fun _ _ _ h => h) (by rfl) (by assumption) ?_ ?_
  rotate_left
  · (intro w hSw; (try dsimp only at hSw); go_simp <;> with_reducible rfl)
  simp only [Act.put, List.setIfInBounds_toArray, List.set_cons_zero, List.set_cons_succ]
  refine takeVal 4 (some 10) ?_ rfl (by kernel_rfl) (by kernel_rfl) (by kernel_rfl) rfl (fun _ _ _ h => h) (by rfl) (by assumption) ?_ ?_
  rotate_left
  · (intro w hSw; (try dsimp only at hSw); go_simp <;> with_reducible rfl)
  simp only [Act.put, List.setIfInBounds_toArray, List.set_cons_zero, List.set_cons_succ]
  refine wpAnyH_ready (rs := [5]) (by kernel_rfl) (by simp) ?_
  refine AllReadyH.cons rfl (fun K hK => ?_) AllReadyH.nil
  go_simp
  refine (impl_BoxName_any e.box _ (unhide SM).box).mono ?_
  rintro e wk3 ⟨rfl, hb⟩
  have A_ := hide ((unhide A).ups hb)
  clear A
  have A := A_
  clear A_
  have RS_ := hide ((unhide RS).up hb)
  clear RS
  have RS := RS_
  clear RS_
  have sz4 := hide (hb.size)
  have BB_ := hide (below_y (unhide BB) hb)
  clear BB
  have BB := BB_
  clear BB_
  clear hb
  go_wp2_with fail
  refine hK.out _ _ (⟨(unhide A).cell 0 rfl, (unhide A).cell 1 rfl, (unhide A).cell 2 rfl, (unhide A).cell 3 rfl, (unhide A).cell 4 rfl, (unhide A).cell 5 rfl, (unhide A).cell 6 rfl, (unhide A).cell 7 rfl⟩) (fun hHeld2 => ?_)
  clear hK K hHeld
  have hHeld := hHeld2; clear hHeld2
  try simp only [Act.put, List.setIfInBounds_toArray, List.set_cons_zero, List.set_cons_succ]
  cases h1 : nameOkL e.box.data.toList with
  | false =>
    refine takeVal 6 (some 12) ?_ rfl (by kernel_rfl) (by kernel_rfl) (by kernel_rfl) rfl (fun _ _ _ h => h) (by rfl) (by assumption) ?_ ?_
    rotate_left
    · (intro w hSw; (try dsimp only at hSw); go_simp <;> with_reducible rfl)
    simp only [Act.put, List.setIfInBounds_toArray, List.set_cons_zero, List.set_cons_succ]
    refine takeVal 7 (some 13) ?_ rfl (by kernel_rfl) (by kernel_rfl) (by kernel_rfl) rfl (fun _ _ _ h => h) (by rfl) (by assumption) ?_ ?_
    rotate_left
    · (intro w hSw; (try dsimp only at hSw); go_simp <;> with_reducible rfl)
    simp only [Act.put, List.setIfInBounds_toArray, List.set_cons_zero, List.set_cons_succ]
    refine takeSkip 8 (some 14) rfl (by kernel_rfl) (by kernel_rfl) (by kernel_rfl) rfl (fun _ _ _ h => h) (by rfl) (by assumption) ?_
    simp only [Act.put, List.setIfInBounds_toArray, List.set_cons_zero, List.set_cons_succ]
    refine takeSkip 9 (some 15) rfl (by kernel_rfl) (by kernel_rfl) (by kernel_rfl) rfl (fun _ _ _ h => h) (by rfl) (by assumption) ?_
    simp only [Act.put, List.setIfInBounds_toArray, List.set_cons_zero, List.set_cons_succ]
    refine takeVal 10 (some 16) ?_ rfl (by kernel_rfl) (by kernel_rfl) (by kernel_rfl) rfl (fun _ _ _ h => h) (by rfl) (by assumption) ?_ ?_
    rotate_left
    · (intro w hSw; (try dsimp only at hSw); go_simp <;> with_reducible rfl)
    simp only [Act.put, List.setIfInBounds_toArray, List.set_cons_zero, List.set_cons_succ]
    refine takeVal 11 (some 17) ?_ rfl (by kernel_rfl) (by kernel_rfl) (by kernel_rfl) rfl (fun _ _ _ h => h) (by rfl) (by assumption) ?_ ?_
    rotate_left
    · (intro w hSw; (try dsimp only at hSw); go_simp <;> with_reducible rfl)
    simp only [Act.put, List.setIfInBounds_toArray, List.set_cons_zero, List.set_cons_succ]
    refine takeSkip 12 (some 18) rfl (by kernel_rfl) (by kernel_rfl) (by kernel_rfl) rfl (fun _ _ _ h => h) (by rfl) (by assumption) ?_
    simp only [Act.put, List.setIfInBounds_toArray, List.set_cons_zero, List.set_cons_succ]
    refine takeSkip 13 (some 19) rfl (by kernel_rfl) (by kernel_rfl) (by kernel_rfl) rfl (fun _ _ _ h => h) (by rfl) (by assumption) ?_
    simp only [Act.put, List.setIfInBounds_toArray, List.set_cons_zero, List.set_cons_succ]
    refine takeSkip 14 (some 20) rfl (by kernel_rfl) (by kernel_rfl) (by kernel_rfl) rfl (fun _ _ _ h => h) (by rfl) (by assumption) ?_
    simp only [Act.put, List.setIfInBounds_toArray, List.set_cons_zero, List.set_cons_succ]
    refine takeSkip 15 (some 21) rfl (by kernel_rfl) (by kernel_rfl) (by kernel_rfl) rfl (fun _ _ _ h => h) (by rfl) (by assumption) ?_
    simp only [Act.put, List.setIfInBounds_toArray, List.set_cons_zero, List.set_cons_succ]
    refine takeVal 16 (some 22) ?_ rfl (by kernel_rfl) (by kernel_rfl) (by kernel_rfl) rfl (fun _ _ _ h => h) (by rfl) (by assumption) ?_ ?_
    rotate_left
    · (intro w hSw; (try dsimp only at hSw); go_simp <;> with_reducible rfl)
    simp only [Act.put, List.setIfInBounds_toArray, List.set_cons_zero, List.set_cons_succ]
    refine takeVal 17 (some 2) ?_ rfl (by kernel_rfl) (by kernel_rfl) (by kernel_rfl) rfl (fun _ _ _ h => h) (by rfl) (by assumption) ?_ ?_
    rotate_left
    · (intro w hSw; (try dsimp only at hSw); go_simp <;> with_reducible rfl)
    simp only [Act.put, List.setIfInBounds_toArray, List.set_cons_zero, List.set_cons_succ]
    have hA : Z = false := by rw [unhide HZ]; simp [h1]
    clear HZ
    subst hA
    refine wpAnyH_done (by kernel_rfl) ?_ _
    go_wp2
    go_ret
    exact ⟨rfl, unhide BB⟩
  | true =>
    refine takeVal 6 (some 12) ?_ rfl (by kernel_rfl) (by kernel_rfl) (by kernel_rfl) rfl (fun _ _ _ h => h) (by rfl) (by assumption) ?_ ?_
    rotate_left
    · (intro w hSw; (try dsimp only at hSw); go_simp <;> with_reducible rfl)
    simp only [Act.put, List.setIfInBounds_toArray, List.set_cons_zero, List.set_cons_succ]
    refine takeVal 7 (some 13) ?_ rfl (by kernel_rfl) (by kernel_rfl) (by kernel_rfl) rfl (fun _ _ _ h => h) (by rfl) (by assumption) ?_ ?_
    rotate_left
    · (intro w hSw; (try dsimp only at hSw); go_simp <;> with_reducible rfl)
    simp only [Act.put, List.setIfInBounds_toArray, List.set_cons_zero, List.set_cons_succ]
    refine takeVal 8 (some 14) ?_ rfl (by kernel_rfl) (by kernel_rfl) (by kernel_rfl) rfl (fun _ _ _ h => h) (by rfl) (by assumption) ?_ ?_
    rotate_left
    · (intro w hSw; (try dsimp only at hSw); go_simp <;> with_reducible rfl)
    simp only [Act.put, List.setIfInBounds_toArray, List.set_cons_zero, List.set_cons_succ]
    refine wpAnyH_ready (rs := [9]) (by kernel_rfl) (by simp) ?_
    refine AllReadyH.cons rfl (fun K hK => ?_) AllReadyH.nil
    go_simp
    refine (right6 e a c _ (unhide SM) (unhide RS)).mono ?_
    rintro e wk4 ⟨rfl, hb⟩
    have A_ := hide ((unhide A).ups hb)
    clear A
    have A := A_
    clear A_
    have RS_ := hide ((unhide RS).up hb)
    clear RS
    have RS := RS_
    clear RS_
    have sz5 := hide (hb.size)
    have BB_ := hide (below_y (unhide BB) hb)
    clear BB
    have BB := BB_
    clear BB_
    clear hb
    go_wp2_with fail
    refine hK.out _ _ (⟨(unhide A).cell 0 rfl, (unhide A).cell 1 rfl, (unhide A).cell 2 rfl, (unhide A).cell 3 rfl, (unhide A).cell 4 rfl, (unhide A).cell 5 rfl, (unhide A).cell 6 rfl, (unhide A).cell 7 rfl⟩) (fun hHeld2 => ?_)
    clear hK K hHeld
    have hHeld := hHeld2; clear hHeld2
    try simp only [Act.put, List.setIfInBounds_toArray, List.set_cons_zero, List.set_cons_succ]
    cases h2 : ((okS e.set && nameOkL e.dst.data.toList)) with
    | false =>
      refine takeVal 10 (some 16) ?_ rfl (by kernel_rfl) (by kernel_rfl) (by kernel_rfl) rfl (fun _ _ _ h => h) (by rfl) (by assumption) ?_ ?_
      rotate_left
      · (intro w hSw; (try dsimp only at hSw); go_simp <;> with_reducible rfl)
      simp only [Act.put, List.setIfInBounds_toArray, List.set_cons_zero, List.set_cons_succ]
      refine takeVal 11 (some 17) ?_ rfl (by kernel_rfl) (by kernel_rfl) (by kernel_rfl) rfl (fun _ _ _ h => h) (by rfl) (by assumption) ?_ ?_
      rotate_left
      · (intro w hSw; (try dsimp only at hSw); go_simp <;> with_reducible rfl)
      simp only [Act.put, List.setIfInBounds_toArray, List.set_cons_zero, List.set_cons_succ]
      refine takeSkip 12 (some 18) rfl (by kernel_rfl) (by kernel_rfl) (by kernel_rfl) rfl (fun _ _ _ h => h) (by rfl) (by assumption) ?_
      simp only [Act.put, List.setIfInBounds_toArray, List.set_cons_zero, List.set_cons_succ]
      refine takeSkip 13 (some 19) rfl (by kernel_rfl) (by kernel_rfl) (by kernel_rfl) rfl (fun _ _ _ h => h) (by rfl) (by assumption) ?_
      simp only [Act.put, List.setIfInBounds_toArray, List.set_cons_zero, List.set_cons_succ]
      refine takeSkip 14 (some 20) rfl (by kernel_rfl) (by kernel_rfl) (by kernel_rfl) rfl (fun _ _ _ h => h) (by rfl) (by assumption) ?_
      simp only [Act.put, List.setIfInBounds_toArray, List.set_cons_zero, List.set_cons_succ]
      refine takeSkip 15 (some 21) rfl (by kernel_rfl) (by kernel_rfl) (by kernel_rfl) rfl (fun _ _ _ h => h) (by rfl) (by assumption) ?_
      simp only [Act.put, List.setIfInBounds_toArray, List.set_cons_zero, List.set_cons_succ]
      refine takeVal 16 (some 22) ?_ rfl (by kernel_rfl) (by kernel_rfl) (by kernel_rfl) rfl (fun _ _ _ h => h) (by rfl) (by assumption) ?_ ?_
      rotate_left
      · (intro w hSw; (try dsimp only at hSw); go_simp <;> with_reducible rfl)
      simp only [Act.put, List.setIfInBounds_toArray, List.set_cons_zero, List.set_cons_succ]
      refine takeVal 17 (some 2) ?_ rfl (by kernel_rfl) (by kernel_rfl) (by kernel_rfl) rfl (fun _ _ _ h => h) (by rfl) (by assumption) ?_ ?_
      rotate_left
      · (intro w hSw; (try dsimp only at hSw); go_simp <;> with_reducible rfl)
      simp only [Act.put, List.setIfInBounds_toArray, List.set_cons_zero, List.set_cons_succ]
      have hA : Z = false := by rw [unhide HZ]; simp [h2]
      clear HZ
      subst hA
      refine wpAnyH_done (by kernel_rfl) ?_ _
      go_wp2
      go_ret
      exact ⟨rfl, unhide BB⟩
    | true =>
      refine takeVal 10 (some 16) ?_ rfl (by kernel_rfl) (by kernel_rfl) (by kernel_rfl) rfl (fun _ _ _ h => h) (by rfl) (by assumption) ?_ ?_
      rotate_left
      · (intro w hSw; (try dsimp only at hSw); go_simp <;> with_reducible rfl)
      simp only [Act.put, List.setIfInBounds_toArray, List.set_cons_zero, List.set_cons_succ]
      refine takeVal 11 (some 17) ?_ rfl (by kernel_rfl) (by kernel_rfl) (by kernel_rfl) rfl (fun _ _ _ h => h) (by rfl) (by assumption) ?_ ?_
      rotate_left
      · (intro w hSw; (try dsimp only at hSw); go_simp <;> with_reducible rfl)
      simp only [Act.put, List.setIfInBounds_toArray, List.set_cons_zero, List.set_cons_succ]
      refine takeVal 12 (some 18) ?_ rfl (by kernel_rfl) (by kernel_rfl) (by kernel_rfl) rfl (fun _ _ _ h => h) (by rfl) (by assumption) ?_ ?_
      rotate_left
      · (intro w hSw; (try dsimp only at hSw); go_simp <;> with_reducible rfl)
      simp only [Act.put, List.setIfInBounds_toArray, List.set_cons_zero, List.set_cons_succ]
      refine takeVal 14 (some 20) ?_ rfl (by kernel_rfl) (by kernel_rfl) (by kernel_rfl) rfl (fun _ _ _ h => h) (by rfl) (by assumption) ?_ ?_
      rotate_left
      · (intro w hSw; (try dsimp only at hSw); go_simp <;> with_reducible rfl)
      simp only [Act.put, List.setIfInBounds_toArray, List.set_cons_zero, List.set_cons_succ]
      refine wpAnyH_ready (rs := [13]) (by kernel_rfl) (by simp) ?_
      refine AllReadyH.cons rfl (fun K hK => ?_) AllReadyH.nil
      go_simp
      refine (edit6 e a c _).mono ?_
      rintro e wk5 ⟨rfl, hb⟩
      have A_ := hide ((unhide A).ups hb)
      clear A
      have A := A_
      clear A_
      have RS_ := hide ((unhide RS).up hb)
      clear RS
      have RS := RS_
      clear RS_
      have sz6 := hide (hb.size)
      have BB_ := hide (below_y (unhide BB) hb)
      clear BB
      have BB := BB_
      clear BB_
      clear hb
      go_wp2_with fail
      refine hK.out _ _ (⟨(unhide A).cell 0 rfl, (unhide A).cell 1 rfl, (unhide A).cell 2 rfl, (unhide A).cell 3 rfl, (unhide A).cell 4 rfl, (unhide A).cell 5 rfl, (unhide A).cell 6 rfl, (unhide A).cell 7 rfl⟩) (fun hHeld2 => ?_)
      clear hK K hHeld
      have hHeld := hHeld2; clear hHeld2
      try simp only [Act.put, List.setIfInBounds_toArray, List.set_cons_zero, List.set_cons_succ]
      refine wpAnyH_ready (rs := [15]) (by kernel_rfl) (by simp) ?_
      refine AllReadyH.cons rfl (fun K hK => ?_) AllReadyH.nil
      go_simp
      refine (same6 e.box e.dst e.text e.set e.how e.bits e.since a c _ (unhide SM).set (unhide RS)).mono ?_
      rintro e wk6 ⟨rfl, hb⟩
      obtain ⟨Y, hY⟩ : ∃ Y, Y = ((((decide ((0 : Int) = e.how) && decide ((0 : Int) = e.bits)) && decide ((0 : Int) = e.since)) && ([] == e.text.toList))) := ⟨_, rfl⟩
      rw [← hY]
      have HY := hide hY
      clear hY
      have A_ := hide ((unhide A).ups hb)
      clear A
      have A := A_
      clear A_
      have RS_ := hide ((unhide RS).up hb)
      clear RS
      have RS := RS_
      clear RS_
      have sz7 := hide (hb.size)
      have BB_ := hide (below_y (unhide BB) hb)
      clear BB
      have BB := BB_
      clear BB_
      clear hb
      go_wp2_with fail
      refine hK.out _ _ (⟨(unhide A).cell 0 rfl, (unhide A).cell 1 rfl, (unhide A).cell 2 rfl, (unhide A).cell 3 rfl, (unhide A).cell 4 rfl, (unhide A).cell 5 rfl, (unhide A).cell 6 rfl, (unhide A).cell 7 rfl⟩) (fun hHeld2 => ?_)
      clear hK K hHeld
      have hHeld := hHeld2; clear hHeld2
      try simp only [Act.put, List.setIfInBounds_toArray, List.set_cons_zero, List.set_cons_succ]
      refine takeVal 16 (some 22) ?_ rfl (by kernel_rfl) (by kernel_rfl) (by kernel_rfl) rfl (fun _ _ _ h => h) (by rfl) (by assumption) ?_ ?_
      rotate_left
      · (intro w hSw; (try dsimp only at hSw); go_simp <;> with_reducible rfl)
      simp only [Act.put, List.setIfInBounds_toArray, List.set_cons_zero, List.set_cons_succ]
      refine takeVal 17 (some 2) ?_ rfl (by kernel_rfl) (by kernel_rfl) (by kernel_rfl) rfl (fun _ _ _ h => h) (by rfl) (by assumption) ?_ ?_
      rotate_left
      · (intro w hSw; (try dsimp only at hSw); go_simp <;> with_reducible rfl)
      simp only [Act.put, List.setIfInBounds_toArray, List.set_cons_zero, List.set_cons_succ]
      have hA : Z = Y := by rw [unhide HZ, unhide HY]; simp [h1, h2]
      clear HZ
      subst hA
      refine wpAnyH_done (by kernel_rfl) ?_ _
      go_wp2
      go_ret
      exact ⟨rfl, unhide BB⟩
set_option maxHeartbeats 4000000 in
set_option maxRecDepth 100000 in
theorem okI7 (e : Ed) (a : Option Addr) (c : Nat) (w : World) (hk : e.kind = 7) (hs : SmallEd 1048576 e) (hr : ReadO w (.slice a e.set.length c) e.set) :
    Calls Tryd.prog 15 #[.agg #[.int .i64 e.kind, .string e.box, .string e.dst, .slice a e.set.length c, .int .i64 e.how, .int .i64 e.bits, .int .i64 e.since, .string e.text]] w fun x w' => x = .returned (.bool (nameOkL e.box.data.toList && ((okS e.set && nameOkL e.dst.data.toList)) && ((((decide ((0 : Int) = e.how) && decide ((0 : Int) = e.bits)) && decide ((0 : Int) = e.since)) && ([] == e.text.toList))))) ∧ Below w.heap.size w w' := by
  obtain ⟨Z, hZ⟩ : ∃ Z, Z = (nameOkL e.box.data.toList && ((okS e.set && nameOkL e.dst.data.toList)) && ((((decide ((0 : Int) = e.how) && decide ((0 : Int) = e.bits)) && decide ((0 : Int) = e.since)) && ([] == e.text.toList)))) := ⟨_, rfl⟩
  rw [← hZ, hk]
  have SM := hide hs
  have RS := hide hr
  have HZ := hide hZ
  have DD := hide (fun W => deed7 e a c W hk)
  rw [hk] at DD
  clear hs hr hZ hk
  have BB := hide (Below.refl w.heap.size w)
  obtain ⟨wk1, hA⟩ : ∃ X, X = w.alloc (.cells ([.int .i64 7, .string e.box, .string e.dst, .slice a e.set.length c, .int .i64 e.how, .int .i64 e.bits, .int .i64 e.since, .string e.text] : List Value).toArray 30) := ⟨_, rfl⟩
  have Ax : HasObj wk1 w.heap.size 30 [.int .i64 7, .string e.box, .string e.dst, .slice a e.set.length c, .int .i64 e.how, .int .i64 e.bits, .int .i64 e.since, .string e.text] := by rw [hA]; exact HasObj.new _ _ _
  have hbn : Below w.heap.size w wk1 := by rw [hA]; exact (Below.refl _ _).alloc (Nat.le_refl _) _
  have loA : w.heap.size ≤ w.heap.size := (unhide BB).size
  have EA := hA.symm
  clear hA
  have RS_ := hide ((unhide RS).up hbn)
  clear RS
  have RS := RS_
  clear RS_
  have sz1 := hide (hbn.size)
  have BB_ := hide (below_y (unhide BB) hbn)
  clear BB
  have BB := BB_
  clear BB_
  clear hbn
  have A := hide Ax
  clear Ax
  have Ac0_1 := (unhide A).cell 0 rfl
  have Ac1_1 := (unhide A).cell 1 rfl
  have Ac2_1 := (unhide A).cell 2 rfl
  have Ac3_1 := (unhide A).cell 3 rfl
  have Ac4_1 := (unhide A).cell 4 rfl
  have Ac5_1 := (unhide A).cell 5 rfl
  have Ac6_1 := (unhide A).cell 6 rfl
  have Ac7_1 := (unhide A).cell 7 rfl
  go_enter Tryd.func15, Tryd.ntmps15
  go_wp2_with fail
  clear Ac0_1 Ac1_1 Ac2_1 Ac3_1 Ac4_1 Ac5_1 Ac6_1 Ac7_1 EA
  refine (unhide DD _).mono ?_
  rintro e wk2 ⟨rfl, hb⟩
  have A_ := hide ((unhide A).ups hb)
  clear A
  have A := A_
  clear A_
  have RS_ := hide ((unhide RS).up hb)
  clear RS
  have RS := RS_
  clear RS_
  have sz2 := hide (hb.size)
  have BB_ := hide (below_y (unhide BB) hb)
  clear BB
  have BB := BB_
  clear BB_
  clear hb
  clear DD
  go_wp2
  refine wp_region_held_drew (S := fun w' => w'.cell? ⟨w.heap.size, 0, none⟩ = some (.int .i64 7) ∧ w'.cell? ⟨w.heap.size, 1, none⟩ = some (.string e.box) ∧ w'.cell? ⟨w.heap.size, 2, none⟩ = some (.string e.dst) ∧ w'.cell? ⟨w.heap.size, 3, none⟩ = some (.slice a e.set.length c) ∧ w'.cell? ⟨w.heap.size, 4, none⟩ = some (.int .i64 e.how) ∧ w'.cell? ⟨w.heap.size, 5, none⟩ = some (.int .i64 e.bits) ∧ w'.cell? ⟨w.heap.size, 6, none⟩ = some (.int .i64 e.since) ∧ w'.cell? ⟨w.heap.size, 7, none⟩ = some (.string e.text)) (by kernel_rfl) (⟨(unhide A).cell 0 rfl, (unhide A).cell 1 rfl, (unhide A).cell 2 rfl, (unhide A).cell 3 rfl, (unhide A).cell 4 rfl, (unhide A).cell 5 rfl, (unhide A).cell 6 rfl, (unhide A).cell 7 rfl⟩) (fun hHeld => ?_)
  have A_ := hide ((unhide A).drew)
  clear A
  have A := A_
  clear A_
  have RS_ := hide ((unhide RS).drew)
  clear RS
  have RS := RS_
  clear RS_
  have BB_ := hide ((unhide BB).drew)
  clear BB
  have BB := BB_
  clear BB_
  have sz3 : Hid (wk2.heap.size ≤ wk2.drew.heap.size) := Nat.le_refl _
  refine takeVal 0 (some 6) ?_ rfl (by kernel_rfl) (by kernel_rfl) (by kernel_rfl) rfl (fun _ _ _ h => h) (by rfl) (by assumption) ?_ ?_
  rotate_left
  · (intro w hSw; (try dsimp only at hSw); go_simp <;> with_reducible rfl)
  simp only [Act.put, List.setIfInBounds_toArray, List.set_cons_zero, List.set_cons_succ]
  refine takeVal 1 (some 7) ?_ rfl (by kernel_rfl) (by kernel_rfl) (by kernel_rfl) rfl (fun _ _ _ h => h) (by rfl) (by assumption) ?_ ?_
  rotate_left
  · (intro w hSw; (try dsimp only at hSw); go_simp <;> with_reducible rfl)
  simp only [Act.put, List.setIfInBounds_toArray, List.set_cons_zero, List.set_cons_succ]
  refine takeVal 2 (some 8) ?_ rfl (by kernel_rfl) (by kernel_rfl) (by kernel_rfl) rfl (fun _ _ _ h => h) (by rfl) (by assumption) ?_ ?_
  rotate_left
  · (intro w hSw; (try dsimp only at hSw); go_simp <;> with_reducible rfl)
  simp only [Act.put, List.setIfInBounds_toArray, List.set_cons_zero, List.set_cons_succ]
  refine takeVal 3 (some 9) ?_ rfl (by kernel_rfl) (by kernel_rfl) (by kernel_rfl) rfl (fun _ _ _ h => h) (by rfl) (by assumption) ?_ ?_
  rotate_left
  · (intro w hSw; (try dsimp only at hSw); go_simp <;> with_reducible rfl)
  simp only [Act.put, List.setIfInBounds_toArray, List.set_cons_zero, List.set_cons_succ]
  refine takeVal 4 (some 10) ?_ rfl (by kernel_rfl) (by kernel_rfl) (by kernel_rfl) rfl (fun _ _ _ h => h) (by rfl) (by assumption) ?_ ?_
  rotate_left
  · (intro w hSw; (try dsimp only at hSw); go_simp <;> with_reducible rfl)
  simp only [Act.put, List.setIfInBounds_toArray, List.set_cons_zero, List.set_cons_succ]
  refine wpAnyH_ready (rs := [5]) (by kernel_rfl) (by simp) ?_
  refine AllReadyH.cons rfl (fun K hK => ?_) AllReadyH.nil
  go_simp
  refine (impl_BoxName_any e.box _ (unhide SM).box).mono ?_
  rintro e wk3 ⟨rfl, hb⟩
  have A_ := hide ((unhide A).ups hb)
  clear A
  have A := A_
  clear A_
  have RS_ := hide ((unhide RS).up hb)
  clear RS
  have RS := RS_
  clear RS_
  have sz4 := hide (hb.size)
  have BB_ := hide (below_y (unhide BB) hb)
  clear BB
  have BB := BB_
  clear BB_
  clear hb
  go_wp2_with fail
  refine hK.out _ _ (⟨(unhide A).cell 0 rfl, (unhide A).cell 1 rfl, (unhide A).cell 2 rfl, (unhide A).cell 3 rfl, (unhide A).cell 4 rfl, (unhide A).cell 5 rfl, (unhide A).cell 6 rfl, (unhide A).cell 7 rfl⟩) (fun hHeld2 => ?_)
  clear hK K hHeld
  have hHeld := hHeld2; clear hHeld2
  try simp only [Act.put, List.setIfInBounds_toArray, List.set_cons_zero, List.set_cons_succ]
  cases h1 : nameOkL e.box.data.toList with
  | false =>
    refine takeVal 6 (some 12) ?_ rfl (by kernel_rfl) (by kernel_rfl) (by kernel_rfl) rfl (fun _ _ _ h => h) (by rfl) (by assumption) ?_ ?_
    rotate_left
    · (intro w hSw; (try dsimp only at hSw); go_simp <;> with_reducible rfl)
    simp only [Act.put, List.setIfInBounds_toArray, List.set_cons_zero, List.set_cons_succ]
    refine takeVal 7 (some 13) ?_ rfl (by kernel_rfl) (by kernel_rfl) (by kernel_rfl) rfl (fun _ _ _ h => h) (by rfl) (by assumption) ?_ ?_
    rotate_left
    · (intro w hSw; (try dsimp only at hSw); go_simp <;> with_reducible rfl)
    simp only [Act.put, List.setIfInBounds_toArray, List.set_cons_zero, List.set_cons_succ]
    refine takeSkip 8 (some 14) rfl (by kernel_rfl) (by kernel_rfl) (by kernel_rfl) rfl (fun _ _ _ h => h) (by rfl) (by assumption) ?_
    simp only [Act.put, List.setIfInBounds_toArray, List.set_cons_zero, List.set_cons_succ]
    refine takeSkip 9 (some 15) rfl (by kernel_rfl) (by kernel_rfl) (by kernel_rfl) rfl (fun _ _ _ h => h) (by rfl) (by assumption) ?_
    simp only [Act.put, List.setIfInBounds_toArray, List.set_cons_zero, List.set_cons_succ]
    refine takeVal 10 (some 16) ?_ rfl (by kernel_rfl) (by kernel_rfl) (by kernel_rfl) rfl (fun _ _ _ h => h) (by rfl) (by assumption) ?_ ?_
    rotate_left
    · (intro w hSw; (try dsimp only at hSw); go_simp <;> with_reducible rfl)
    simp only [Act.put, List.setIfInBounds_toArray, List.set_cons_zero, List.set_cons_succ]
    refine takeVal 11 (some 17) ?_ rfl (by kernel_rfl) (by kernel_rfl) (by kernel_rfl) rfl (fun _ _ _ h => h) (by rfl) (by assumption) ?_ ?_
    rotate_left
    · (intro w hSw; (try dsimp only at hSw); go_simp <;> with_reducible rfl)
    simp only [Act.put, List.setIfInBounds_toArray, List.set_cons_zero, List.set_cons_succ]
    refine takeSkip 12 (some 18) rfl (by kernel_rfl) (by kernel_rfl) (by kernel_rfl) rfl (fun _ _ _ h => h) (by rfl) (by assumption) ?_
    simp only [Act.put, List.setIfInBounds_toArray, List.set_cons_zero, List.set_cons_succ]
    refine takeSkip 13 (some 19) rfl (by kernel_rfl) (by kernel_rfl) (by kernel_rfl) rfl (fun _ _ _ h => h) (by rfl) (by assumption) ?_
    simp only [Act.put, List.setIfInBounds_toArray, List.set_cons_zero, List.set_cons_succ]
    refine takeSkip 14 (some 20) rfl (by kernel_rfl) (by kernel_rfl) (by kernel_rfl) rfl (fun _ _ _ h => h) (by rfl) (by assumption) ?_
    simp only [Act.put, List.setIfInBounds_toArray, List.set_cons_zero, List.set_cons_succ]
    refine takeSkip 15 (some 21) rfl (by kernel_rfl) (by kernel_rfl) (by kernel_rfl) rfl (fun _ _ _ h => h) (by rfl) (by assumption) ?_
    simp only [Act.put, List.setIfInBounds_toArray, List.set_cons_zero, List.set_cons_succ]
    refine takeVal 16 (some 22) ?_ rfl (by kernel_rfl) (by kernel_rfl) (by kernel_rfl) rfl (fun _ _ _ h => h) (by rfl) (by assumption) ?_ ?_
    rotate_left
    · (intro w hSw; (try dsimp only at hSw); go_simp <;> with_reducible rfl)
    simp only [Act.put, List.setIfInBounds_toArray, List.set_cons_zero, List.set_cons_succ]
    refine takeVal 17 (some 2) ?_ rfl (by kernel_rfl) (by kernel_rfl) (by kernel_rfl) rfl (fun _ _ _ h => h) (by rfl) (by assumption) ?_ ?_
    rotate_left
    · (intro w hSw; (try dsimp only at hSw); go_simp <;> with_reducible rfl)
    simp only [Act.put, List.setIfInBounds_toArray, List.set_cons_zero, List.set_cons_succ]
    have hA : Z = false := by rw [unhide HZ]; simp [h1]
    clear HZ
    subst hA
    refine wpAnyH_done (by kernel_rfl) ?_ _
    go_wp2
    go_ret
    exact ⟨rfl, unhide BB⟩
  | true =>
    refine takeVal 6 (some 12) ?_ rfl (by kernel_rfl) (by kernel_rfl) (by kernel_rfl) rfl (fun _ _ _ h => h) (by rfl) (by assumption) ?_ ?_
    rotate_left
    · (intro w hSw; (try dsimp only at hSw); go_simp <;> with_reducible rfl)
    simp only [Act.put, List.setIfInBounds_toArray, List.set_cons_zero, List.set_cons_succ]
    refine takeVal 7 (some 13) ?_ rfl (by kernel_rfl) (by kernel_rfl) (by kernel_rfl) rfl (fun _ _ _ h => h) (by rfl) (by assumption) ?_ ?_
    rotate_left
    · (intro w hSw; (try dsimp only at hSw); go_simp <;> with_reducible rfl)
    simp only [Act.put, List.setIfInBounds_toArray, List.set_cons_zero, List.set_cons_succ]
    refine takeVal 8 (some 14) ?_ rfl (by kernel_rfl) (by kernel_rfl) (by kernel_rfl) rfl (fun _ _ _ h => h) (by rfl) (by assumption) ?_ ?_
    rotate_left
    · (intro w hSw; (try dsimp only at hSw); go_simp <;> with_reducible rfl)
    simp only [Act.put, List.setIfInBounds_toArray, List.set_cons_zero, List.set_cons_succ]
    refine wpAnyH_ready (rs := [9]) (by kernel_rfl) (by simp) ?_
    refine AllReadyH.cons rfl (fun K hK => ?_) AllReadyH.nil
    go_simp
    refine (right7 e a c _ (unhide SM) (unhide RS)).mono ?_
    rintro e wk4 ⟨rfl, hb⟩
    have A_ := hide ((unhide A).ups hb)
    clear A
    have A := A_
    clear A_
    have RS_ := hide ((unhide RS).up hb)
    clear RS
    have RS := RS_
    clear RS_
    have sz5 := hide (hb.size)
    have BB_ := hide (below_y (unhide BB) hb)
    clear BB
    have BB := BB_
    clear BB_
    clear hb
    go_wp2_with fail
    refine hK.out _ _ (⟨(unhide A).cell 0 rfl, (unhide A).cell 1 rfl, (unhide A).cell 2 rfl, (unhide A).cell 3 rfl, (unhide A).cell 4 rfl, (unhide A).cell 5 rfl, (unhide A).cell 6 rfl, (unhide A).cell 7 rfl⟩) (fun hHeld2 => ?_)
    clear hK K hHeld
    have hHeld := hHeld2; clear hHeld2
    try simp only [Act.put, List.setIfInBounds_toArray, List.set_cons_zero, List.set_cons_succ]
    cases h2 : ((okS e.set && nameOkL e.dst.data.toList)) with
    | false =>
      refine takeVal 10 (some 16) ?_ rfl (by kernel_rfl) (by kernel_rfl) (by kernel_rfl) rfl (fun _ _ _ h => h) (by rfl) (by assumption) ?_ ?_
      rotate_left
      · (intro w hSw; (try dsimp only at hSw); go_simp <;> with_reducible rfl)
      simp only [Act.put, List.setIfInBounds_toArray, List.set_cons_zero, List.set_cons_succ]
      refine takeVal 11 (some 17) ?_ rfl (by kernel_rfl) (by kernel_rfl) (by kernel_rfl) rfl (fun _ _ _ h => h) (by rfl) (by assumption) ?_ ?_
      rotate_left
      · (intro w hSw; (try dsimp only at hSw); go_simp <;> with_reducible rfl)
      simp only [Act.put, List.setIfInBounds_toArray, List.set_cons_zero, List.set_cons_succ]
      refine takeSkip 12 (some 18) rfl (by kernel_rfl) (by kernel_rfl) (by kernel_rfl) rfl (fun _ _ _ h => h) (by rfl) (by assumption) ?_
      simp only [Act.put, List.setIfInBounds_toArray, List.set_cons_zero, List.set_cons_succ]
      refine takeSkip 13 (some 19) rfl (by kernel_rfl) (by kernel_rfl) (by kernel_rfl) rfl (fun _ _ _ h => h) (by rfl) (by assumption) ?_
      simp only [Act.put, List.setIfInBounds_toArray, List.set_cons_zero, List.set_cons_succ]
      refine takeSkip 14 (some 20) rfl (by kernel_rfl) (by kernel_rfl) (by kernel_rfl) rfl (fun _ _ _ h => h) (by rfl) (by assumption) ?_
      simp only [Act.put, List.setIfInBounds_toArray, List.set_cons_zero, List.set_cons_succ]
      refine takeSkip 15 (some 21) rfl (by kernel_rfl) (by kernel_rfl) (by kernel_rfl) rfl (fun _ _ _ h => h) (by rfl) (by assumption) ?_
      simp only [Act.put, List.setIfInBounds_toArray, List.set_cons_zero, List.set_cons_succ]
      refine takeVal 16 (some 22) ?_ rfl (by kernel_rfl) (by kernel_rfl) (by kernel_rfl) rfl (fun _ _ _ h => h) (by rfl) (by assumption) ?_ ?_
      rotate_left
      · (intro w hSw; (try dsimp only at hSw); go_simp <;> with_reducible rfl)
      simp only [Act.put, List.setIfInBounds_toArray, List.set_cons_zero, List.set_cons_succ]
      refine takeVal 17 (some 2) ?_ rfl (by kernel_rfl) (by kernel_rfl) (by kernel_rfl) rfl (fun _ _ _ h => h) (by rfl) (by assumption) ?_ ?_
      rotate_left
      · (intro w hSw; (try dsimp only at hSw); go_simp <;> with_reducible rfl)
      simp only [Act.put, List.setIfInBounds_toArray, List.set_cons_zero, List.set_cons_succ]
      have hA : Z = false := by rw [unhide HZ]; simp [h2]
      clear HZ
      subst hA
      refine wpAnyH_done (by kernel_rfl) ?_ _
      go_wp2
      go_ret
      exact ⟨rfl, unhide BB⟩
    | true =>
      refine takeVal 10 (some 16) ?_ rfl (by kernel_rfl) (by kernel_rfl) (by kernel_rfl) rfl (fun _ _ _ h => h) (by rfl) (by assumption) ?_ ?_
      rotate_left
      · (intro w hSw; (try dsimp only at hSw); go_simp <;> with_reducible rfl)
      simp only [Act.put, List.setIfInBounds_toArray, List.set_cons_zero, List.set_cons_succ]
      refine takeVal 11 (some 17) ?_ rfl (by kernel_rfl) (by kernel_rfl) (by kernel_rfl) rfl (fun _ _ _ h => h) (by rfl) (by assumption) ?_ ?_
      rotate_left
      · (intro w hSw; (try dsimp only at hSw); go_simp <;> with_reducible rfl)
      simp only [Act.put, List.setIfInBounds_toArray, List.set_cons_zero, List.set_cons_succ]
      refine takeVal 12 (some 18) ?_ rfl (by kernel_rfl) (by kernel_rfl) (by kernel_rfl) rfl (fun _ _ _ h => h) (by rfl) (by assumption) ?_ ?_
      rotate_left
      · (intro w hSw; (try dsimp only at hSw); go_simp <;> with_reducible rfl)
      simp only [Act.put, List.setIfInBounds_toArray, List.set_cons_zero, List.set_cons_succ]
      refine takeVal 14 (some 20) ?_ rfl (by kernel_rfl) (by kernel_rfl) (by kernel_rfl) rfl (fun _ _ _ h => h) (by rfl) (by assumption) ?_ ?_
      rotate_left
      · (intro w hSw; (try dsimp only at hSw); go_simp <;> with_reducible rfl)
      simp only [Act.put, List.setIfInBounds_toArray, List.set_cons_zero, List.set_cons_succ]
      refine wpAnyH_ready (rs := [13]) (by kernel_rfl) (by simp) ?_
      refine AllReadyH.cons rfl (fun K hK => ?_) AllReadyH.nil
      go_simp
      refine (edit7 e a c _).mono ?_
      rintro e wk5 ⟨rfl, hb⟩
      have A_ := hide ((unhide A).ups hb)
      clear A
      have A := A_
      clear A_
      have RS_ := hide ((unhide RS).up hb)
      clear RS
      have RS := RS_
      clear RS_
      have sz6 := hide (hb.size)
      have BB_ := hide (below_y (unhide BB) hb)
      clear BB
      have BB := BB_
      clear BB_
      clear hb
      go_wp2_with fail
      refine hK.out _ _ (⟨(unhide A).cell 0 rfl, (unhide A).cell 1 rfl, (unhide A).cell 2 rfl, (unhide A).cell 3 rfl, (unhide A).cell 4 rfl, (unhide A).cell 5 rfl, (unhide A).cell 6 rfl, (unhide A).cell 7 rfl⟩) (fun hHeld2 => ?_)
      clear hK K hHeld
      have hHeld := hHeld2; clear hHeld2
      try simp only [Act.put, List.setIfInBounds_toArray, List.set_cons_zero, List.set_cons_succ]
      refine wpAnyH_ready (rs := [15]) (by kernel_rfl) (by simp) ?_
      refine AllReadyH.cons rfl (fun K hK => ?_) AllReadyH.nil
      go_simp
      refine (same7 e.box e.dst e.text e.set e.how e.bits e.since a c _ (unhide SM).set (unhide RS)).mono ?_
      rintro e wk6 ⟨rfl, hb⟩
      obtain ⟨Y, hY⟩ : ∃ Y, Y = ((((decide ((0 : Int) = e.how) && decide ((0 : Int) = e.bits)) && decide ((0 : Int) = e.since)) && ([] == e.text.toList))) := ⟨_, rfl⟩
      rw [← hY]
      have HY := hide hY
      clear hY
      have A_ := hide ((unhide A).ups hb)
      clear A
      have A := A_
      clear A_
      have RS_ := hide ((unhide RS).up hb)
      clear RS
      have RS := RS_
      clear RS_
      have sz7 := hide (hb.size)
      have BB_ := hide (below_y (unhide BB) hb)
      clear BB
      have BB := BB_
      clear BB_
      clear hb
      go_wp2_with fail
      refine hK.out _ _ (⟨(unhide A).cell 0 rfl, (unhide A).cell 1 rfl, (unhide A).cell 2 rfl, (unhide A).cell 3 rfl, (unhide A).cell 4 rfl, (unhide A).cell 5 rfl, (unhide A).cell 6 rfl, (unhide A).cell 7 rfl⟩) (fun hHeld2 => ?_)
      clear hK K hHeld
      have hHeld := hHeld2; clear hHeld2
      try simp only [Act.put, List.setIfInBounds_toArray, List.set_cons_zero, List.set_cons_succ]
      refine takeVal 16 (some 22) ?_ rfl (by kernel_rfl) (by kernel_rfl) (by kernel_rfl) rfl (fun _ _ _ h => h) (by rfl) (by assumption) ?_ ?_
      rotate_left
      · (intro w hSw; (try dsimp only at hSw); go_simp <;> with_reducible rfl)
      simp only [Act.put, List.setIfInBounds_toArray, List.set_cons_zero, List.set_cons_succ]
      refine takeVal 17 (some 2) ?_ rfl (by kernel_rfl) (by kernel_rfl) (by kernel_rfl) rfl (fun _ _ _ h => h) (by rfl) (by assumption) ?_ ?_
      rotate_left
      · (intro w hSw; (try dsimp only at hSw); go_simp <;> with_reducible rfl)
      simp only [Act.put, List.setIfInBounds_toArray, List.set_cons_zero, List.set_cons_succ]
      have hA : Z = Y := by rw [unhide HZ, unhide HY]; simp [h1, h2]
      clear HZ
      subst hA
      refine wpAnyH_done (by kernel_rfl) ?_ _
      go_wp2
      go_ret
      exact ⟨rfl, unhide BB⟩
set_option maxHeartbeats 4000000 in
set_option maxRecDepth 100000 in
theorem okI8 (e : Ed) (a : Option Addr) (c : Nat) (w : World) (hk : e.kind = 8) (hs : SmallEd 1048576 e) (hr : ReadO w (.slice a e.set.length c) e.set) :
    Calls Tryd.prog 15 #[.agg #[.int .i64 e.kind, .string e.box, .string e.dst, .slice a e.set.length c, .int .i64 e.how, .int .i64 e.bits, .int .i64 e.since, .string e.text]] w fun x w' => x = .returned (.bool (nameOkL e.box.data.toList && (inI e.since 0 100000) && (((((([] == e.dst.toList) && decide (e.set.length = 0)) && decide ((0 : Int) = e.how)) && decide ((0 : Int) = e.bits)) && ([] == e.text.toList))))) ∧ Below w.heap.size w w' := by
  obtain ⟨Z, hZ⟩ : ∃ Z, Z = (nameOkL e.box.data.toList && (inI e.since 0 100000) && (((((([] == e.dst.toList) && decide (e.set.length = 0)) && decide ((0 : Int) = e.how)) && decide ((0 : Int) = e.bits)) && ([] == e.text.toList)))) := ⟨_, rfl⟩
  rw [← hZ, hk]
  have SM := hide hs
  have RS := hide hr
  have HZ := hide hZ
  have DD := hide (fun W => deed8 e a c W hk)
  rw [hk] at DD
  clear hs hr hZ hk
  have BB := hide (Below.refl w.heap.size w)
  obtain ⟨wk1, hA⟩ : ∃ X, X = w.alloc (.cells ([.int .i64 8, .string e.box, .string e.dst, .slice a e.set.length c, .int .i64 e.how, .int .i64 e.bits, .int .i64 e.since, .string e.text] : List Value).toArray 30) := ⟨_, rfl⟩
  have Ax : HasObj wk1 w.heap.size 30 [.int .i64 8, .string e.box, .string e.dst, .slice a e.set.length c, .int .i64 e.how, .int .i64 e.bits, .int .i64 e.since, .string e.text] := by rw [hA]; exact HasObj.new _ _ _
  have hbn : Below w.heap.size w wk1 := by rw [hA]; exact (Below.refl _ _).alloc (Nat.le_refl _) _
  have loA : w.heap.size ≤ w.heap.size := (unhide BB).size
  have EA := hA.symm
  clear hA
  have RS_ := hide ((unhide RS).up hbn)
  clear RS
  have RS := RS_
  clear RS_
  have sz1 := hide (hbn.size)
  have BB_ := hide (below_y (unhide BB) hbn)
  clear BB
  have BB := BB_
  clear BB_
  clear hbn
  have A := hide Ax
  clear Ax
  have Ac0_1 := (unhide A).cell 0 rfl
  have Ac1_1 := (unhide A).cell 1 rfl
  have Ac2_1 := (unhide A).cell 2 rfl
  have Ac3_1 := (unhide A).cell 3 rfl
  have Ac4_1 := (unhide A).cell 4 rfl
  have Ac5_1 := (unhide A).cell 5 rfl
  have Ac6_1 := (unhide A).cell 6 rfl
  have Ac7_1 := (unhide A).cell 7 rfl
  go_enter Tryd.func15, Tryd.ntmps15
  go_wp2_with fail
  clear Ac0_1 Ac1_1 Ac2_1 Ac3_1 Ac4_1 Ac5_1 Ac6_1 Ac7_1 EA
  refine (unhide DD _).mono ?_
  rintro e wk2 ⟨rfl, hb⟩
  have A_ := hide ((unhide A).ups hb)
  clear A
  have A := A_
  clear A_
  have RS_ := hide ((unhide RS).up hb)
  clear RS
  have RS := RS_
  clear RS_
  have sz2 := hide (hb.size)
  have BB_ := hide (below_y (unhide BB) hb)
  clear BB
  have BB := BB_
  clear BB_
  clear hb
  clear DD
  go_wp2
  refine wp_region_held_drew (S := fun w' => w'.cell? ⟨w.heap.size, 0, none⟩ = some (.int .i64 8) ∧ w'.cell? ⟨w.heap.size, 1, none⟩ = some (.string e.box) ∧ w'.cell? ⟨w.heap.size, 2, none⟩ = some (.string e.dst) ∧ w'.cell? ⟨w.heap.size, 3, none⟩ = some (.slice a e.set.length c) ∧ w'.cell? ⟨w.heap.size, 4, none⟩ = some (.int .i64 e.how) ∧ w'.cell? ⟨w.heap.size, 5, none⟩ = some (.int .i64 e.bits) ∧ w'.cell? ⟨w.heap.size, 6, none⟩ = some (.int .i64 e.since) ∧ w'.cell? ⟨w.heap.size, 7, none⟩ = some (.string e.text)) (by kernel_rfl) (⟨(unhide A).cell 0 rfl, (unhide A).cell 1 rfl, (unhide A).cell 2 rfl, (unhide A).cell 3 rfl, (unhide A).cell 4 rfl, (unhide A).cell 5 rfl, (unhide A).cell 6 rfl, (unhide A).cell 7 rfl⟩) (fun hHeld => ?_)
  have A_ := hide ((unhide A).drew)
  clear A
  have A := A_
  clear A_
  have RS_ := hide ((unhide RS).drew)
  clear RS
  have RS := RS_
  clear RS_
  have BB_ := hide ((unhide BB).drew)
  clear BB
  have BB := BB_
  clear BB_
  have sz3 : Hid (wk2.heap.size ≤ wk2.drew.heap.size) := Nat.le_refl _
  refine takeVal 0 (some 6) ?_ rfl (by kernel_rfl) (by kernel_rfl) (by kernel_rfl) rfl (fun _ _ _ h => h) (by rfl) (by assumption) ?_ ?_
  rotate_left
  · (intro w hSw; (try dsimp only at hSw); go_simp <;> with_reducible rfl)
  simp only [Act.put, List.setIfInBounds_toArray, List.set_cons_zero, List.set_cons_succ]
  refine takeVal 1 (some 7) ?_ rfl (by kernel_rfl) (by kernel_rfl) (by kernel_rfl) rfl (fun _ _ _ h => h) (by rfl) (by assumption) ?_ ?_
  rotate_left
  · (intro w hSw; (try dsimp only at hSw); go_simp <;> with_reducible rfl)
  simp only [Act.put, List.setIfInBounds_toArray, List.set_cons_zero, List.set_cons_succ]
  refine takeVal 2 (some 8) ?_ rfl (by kernel_rfl) (by kernel_rfl) (by kernel_rfl) rfl (fun _ _ _ h => h) (by rfl) (by assumption) ?_ ?_
  rotate_left
  · (intro w hSw; (try dsimp only at hSw); go_simp <;> with_reducible rfl)
  simp only [Act.put, List.setIfInBounds_toArray, List.set_cons_zero, List.set_cons_succ]
  refine takeVal 3 (some 9) ?_ rfl (by kernel_rfl) (by kernel_rfl) (by kernel_rfl) rfl (fun _ _ _ h => h) (by rfl) (by assumption) ?_ ?_
  rotate_left
  · (intro w hSw; (try dsimp only at hSw); go_simp <;> with_reducible rfl)
  simp only [Act.put, List.setIfInBounds_toArray, List.set_cons_zero, List.set_cons_succ]
  refine takeVal 4 (some 10) ?_ rfl (by kernel_rfl) (by kernel_rfl) (by kernel_rfl) rfl (fun _ _ _ h => h) (by rfl) (by assumption) ?_ ?_
  rotate_left
  · (intro w hSw; (try dsimp only at hSw); go_simp <;> with_reducible rfl)
  simp only [Act.put, List.setIfInBounds_toArray, List.set_cons_zero, List.set_cons_succ]
  refine wpAnyH_ready (rs := [5]) (by kernel_rfl) (by simp) ?_
  refine AllReadyH.cons rfl (fun K hK => ?_) AllReadyH.nil
  go_simp
  refine (impl_BoxName_any e.box _ (unhide SM).box).mono ?_
  rintro e wk3 ⟨rfl, hb⟩
  have A_ := hide ((unhide A).ups hb)
  clear A
  have A := A_
  clear A_
  have RS_ := hide ((unhide RS).up hb)
  clear RS
  have RS := RS_
  clear RS_
  have sz4 := hide (hb.size)
  have BB_ := hide (below_y (unhide BB) hb)
  clear BB
  have BB := BB_
  clear BB_
  clear hb
  go_wp2_with fail
  refine hK.out _ _ (⟨(unhide A).cell 0 rfl, (unhide A).cell 1 rfl, (unhide A).cell 2 rfl, (unhide A).cell 3 rfl, (unhide A).cell 4 rfl, (unhide A).cell 5 rfl, (unhide A).cell 6 rfl, (unhide A).cell 7 rfl⟩) (fun hHeld2 => ?_)
  clear hK K hHeld
  have hHeld := hHeld2; clear hHeld2
  try simp only [Act.put, List.setIfInBounds_toArray, List.set_cons_zero, List.set_cons_succ]
  cases h1 : nameOkL e.box.data.toList with
  | false =>
    refine takeVal 6 (some 12) ?_ rfl (by kernel_rfl) (by kernel_rfl) (by kernel_rfl) rfl (fun _ _ _ h => h) (by rfl) (by assumption) ?_ ?_
    rotate_left
    · (intro w hSw; (try dsimp only at hSw); go_simp <;> with_reducible rfl)
    simp only [Act.put, List.setIfInBounds_toArray, List.set_cons_zero, List.set_cons_succ]
    refine takeVal 7 (some 13) ?_ rfl (by kernel_rfl) (by kernel_rfl) (by kernel_rfl) rfl (fun _ _ _ h => h) (by rfl) (by assumption) ?_ ?_
    rotate_left
    · (intro w hSw; (try dsimp only at hSw); go_simp <;> with_reducible rfl)
    simp only [Act.put, List.setIfInBounds_toArray, List.set_cons_zero, List.set_cons_succ]
    refine takeSkip 8 (some 14) rfl (by kernel_rfl) (by kernel_rfl) (by kernel_rfl) rfl (fun _ _ _ h => h) (by rfl) (by assumption) ?_
    simp only [Act.put, List.setIfInBounds_toArray, List.set_cons_zero, List.set_cons_succ]
    refine takeSkip 9 (some 15) rfl (by kernel_rfl) (by kernel_rfl) (by kernel_rfl) rfl (fun _ _ _ h => h) (by rfl) (by assumption) ?_
    simp only [Act.put, List.setIfInBounds_toArray, List.set_cons_zero, List.set_cons_succ]
    refine takeVal 10 (some 16) ?_ rfl (by kernel_rfl) (by kernel_rfl) (by kernel_rfl) rfl (fun _ _ _ h => h) (by rfl) (by assumption) ?_ ?_
    rotate_left
    · (intro w hSw; (try dsimp only at hSw); go_simp <;> with_reducible rfl)
    simp only [Act.put, List.setIfInBounds_toArray, List.set_cons_zero, List.set_cons_succ]
    refine takeVal 11 (some 17) ?_ rfl (by kernel_rfl) (by kernel_rfl) (by kernel_rfl) rfl (fun _ _ _ h => h) (by rfl) (by assumption) ?_ ?_
    rotate_left
    · (intro w hSw; (try dsimp only at hSw); go_simp <;> with_reducible rfl)
    simp only [Act.put, List.setIfInBounds_toArray, List.set_cons_zero, List.set_cons_succ]
    refine takeSkip 12 (some 18) rfl (by kernel_rfl) (by kernel_rfl) (by kernel_rfl) rfl (fun _ _ _ h => h) (by rfl) (by assumption) ?_
    simp only [Act.put, List.setIfInBounds_toArray, List.set_cons_zero, List.set_cons_succ]
    refine takeSkip 13 (some 19) rfl (by kernel_rfl) (by kernel_rfl) (by kernel_rfl) rfl (fun _ _ _ h => h) (by rfl) (by assumption) ?_
    simp only [Act.put, List.setIfInBounds_toArray, List.set_cons_zero, List.set_cons_succ]
    refine takeSkip 14 (some 20) rfl (by kernel_rfl) (by kernel_rfl) (by kernel_rfl) rfl (fun _ _ _ h => h) (by rfl) (by assumption) ?_
    simp only [Act.put, List.setIfInBounds_toArray, List.set_cons_zero, List.set_cons_succ]
    refine takeSkip 15 (some 21) rfl (by kernel_rfl) (by kernel_rfl) (by kernel_rfl) rfl (fun _ _ _ h => h) (by rfl) (by assumption) ?_
    simp only [Act.put, List.setIfInBounds_toArray, List.set_cons_zero, List.set_cons_succ]
    refine takeVal 16 (some 22) ?_ rfl (by kernel_rfl) (by kernel_rfl) (by kernel_rfl) rfl (fun _ _ _ h => h) (by rfl) (by assumption) ?_ ?_
    rotate_left
    · (intro w hSw; (try dsimp only at hSw); go_simp <;> with_reducible rfl)
    simp only [Act.put, List.setIfInBounds_toArray, List.set_cons_zero, List.set_cons_succ]
    refine takeVal 17 (some 2) ?_ rfl (by kernel_rfl) (by kernel_rfl) (by kernel_rfl) rfl (fun _ _ _ h => h) (by rfl) (by assumption) ?_ ?_
    rotate_left
    · (intro w hSw; (try dsimp only at hSw); go_simp <;> with_reducible rfl)
    simp only [Act.put, List.setIfInBounds_toArray, List.set_cons_zero, List.set_cons_succ]
    have hA : Z = false := by rw [unhide HZ]; simp [h1]
    clear HZ
    subst hA
    refine wpAnyH_done (by kernel_rfl) ?_ _
    go_wp2
    go_ret
    exact ⟨rfl, unhide BB⟩
  | true =>
    refine takeVal 6 (some 12) ?_ rfl (by kernel_rfl) (by kernel_rfl) (by kernel_rfl) rfl (fun _ _ _ h => h) (by rfl) (by assumption) ?_ ?_
    rotate_left
    · (intro w hSw; (try dsimp only at hSw); go_simp <;> with_reducible rfl)
    simp only [Act.put, List.setIfInBounds_toArray, List.set_cons_zero, List.set_cons_succ]
    refine takeVal 7 (some 13) ?_ rfl (by kernel_rfl) (by kernel_rfl) (by kernel_rfl) rfl (fun _ _ _ h => h) (by rfl) (by assumption) ?_ ?_
    rotate_left
    · (intro w hSw; (try dsimp only at hSw); go_simp <;> with_reducible rfl)
    simp only [Act.put, List.setIfInBounds_toArray, List.set_cons_zero, List.set_cons_succ]
    refine takeVal 8 (some 14) ?_ rfl (by kernel_rfl) (by kernel_rfl) (by kernel_rfl) rfl (fun _ _ _ h => h) (by rfl) (by assumption) ?_ ?_
    rotate_left
    · (intro w hSw; (try dsimp only at hSw); go_simp <;> with_reducible rfl)
    simp only [Act.put, List.setIfInBounds_toArray, List.set_cons_zero, List.set_cons_succ]
    refine wpAnyH_ready (rs := [9]) (by kernel_rfl) (by simp) ?_
    refine AllReadyH.cons rfl (fun K hK => ?_) AllReadyH.nil
    go_simp
    refine (right8 e a c _ (unhide SM) (unhide RS)).mono ?_
    rintro e wk4 ⟨rfl, hb⟩
    have A_ := hide ((unhide A).ups hb)
    clear A
    have A := A_
    clear A_
    have RS_ := hide ((unhide RS).up hb)
    clear RS
    have RS := RS_
    clear RS_
    have sz5 := hide (hb.size)
    have BB_ := hide (below_y (unhide BB) hb)
    clear BB
    have BB := BB_
    clear BB_
    clear hb
    go_wp2_with fail
    refine hK.out _ _ (⟨(unhide A).cell 0 rfl, (unhide A).cell 1 rfl, (unhide A).cell 2 rfl, (unhide A).cell 3 rfl, (unhide A).cell 4 rfl, (unhide A).cell 5 rfl, (unhide A).cell 6 rfl, (unhide A).cell 7 rfl⟩) (fun hHeld2 => ?_)
    clear hK K hHeld
    have hHeld := hHeld2; clear hHeld2
    try simp only [Act.put, List.setIfInBounds_toArray, List.set_cons_zero, List.set_cons_succ]
    cases h2 : (inI e.since 0 100000) with
    | false =>
      refine takeVal 10 (some 16) ?_ rfl (by kernel_rfl) (by kernel_rfl) (by kernel_rfl) rfl (fun _ _ _ h => h) (by rfl) (by assumption) ?_ ?_
      rotate_left
      · (intro w hSw; (try dsimp only at hSw); go_simp <;> with_reducible rfl)
      simp only [Act.put, List.setIfInBounds_toArray, List.set_cons_zero, List.set_cons_succ]
      refine takeVal 11 (some 17) ?_ rfl (by kernel_rfl) (by kernel_rfl) (by kernel_rfl) rfl (fun _ _ _ h => h) (by rfl) (by assumption) ?_ ?_
      rotate_left
      · (intro w hSw; (try dsimp only at hSw); go_simp <;> with_reducible rfl)
      simp only [Act.put, List.setIfInBounds_toArray, List.set_cons_zero, List.set_cons_succ]
      refine takeSkip 12 (some 18) rfl (by kernel_rfl) (by kernel_rfl) (by kernel_rfl) rfl (fun _ _ _ h => h) (by rfl) (by assumption) ?_
      simp only [Act.put, List.setIfInBounds_toArray, List.set_cons_zero, List.set_cons_succ]
      refine takeSkip 13 (some 19) rfl (by kernel_rfl) (by kernel_rfl) (by kernel_rfl) rfl (fun _ _ _ h => h) (by rfl) (by assumption) ?_
      simp only [Act.put, List.setIfInBounds_toArray, List.set_cons_zero, List.set_cons_succ]
      refine takeSkip 14 (some 20) rfl (by kernel_rfl) (by kernel_rfl) (by kernel_rfl) rfl (fun _ _ _ h => h) (by rfl) (by assumption) ?_
      simp only [Act.put, List.setIfInBounds_toArray, List.set_cons_zero, List.set_cons_succ]
      refine takeSkip 15 (some 21) rfl (by kernel_rfl) (by kernel_rfl) (by kernel_rfl) rfl (fun _ _ _ h => h) (by rfl) (by assumption) ?_
      simp only [Act.put, List.setIfInBounds_toArray, List.set_cons_zero, List.set_cons_succ]
      refine takeVal 16 (some 22) ?_ rfl (by kernel_rfl) (by kernel_rfl) (by kernel_rfl) rfl (fun _ _ _ h => h) (by rfl) (by assumption) ?_ ?_
      rotate_left
      · (intro w hSw; (try dsimp only at hSw); go_simp <;> with_reducible rfl)
      simp only [Act.put, List.setIfInBounds_toArray, List.set_cons_zero, List.set_cons_succ]
      refine takeVal 17 (some 2) ?_ rfl (by kernel_rfl) (by kernel_rfl) (by kernel_rfl) rfl (fun _ _ _ h => h) (by rfl) (by assumption) ?_ ?_
      rotate_left
      · (intro w hSw; (try dsimp only at hSw); go_simp <;> with_reducible rfl)
      simp only [Act.put, List.setIfInBounds_toArray, List.set_cons_zero, List.set_cons_succ]
      have hA : Z = false := by rw [unhide HZ]; simp [h2]
      clear HZ
      subst hA
      refine wpAnyH_done (by kernel_rfl) ?_ _
      go_wp2
      go_ret
      exact ⟨rfl, unhide BB⟩
    | true =>
      refine takeVal 10 (some 16) ?_ rfl (by kernel_rfl) (by kernel_rfl) (by kernel_rfl) rfl (fun _ _ _ h => h) (by rfl) (by assumption) ?_ ?_
      rotate_left
      · (intro w hSw; (try dsimp only at hSw); go_simp <;> with_reducible rfl)
      simp only [Act.put, List.setIfInBounds_toArray, List.set_cons_zero, List.set_cons_succ]
      refine takeVal 11 (some 17) ?_ rfl (by kernel_rfl) (by kernel_rfl) (by kernel_rfl) rfl (fun _ _ _ h => h) (by rfl) (by assumption) ?_ ?_
      rotate_left
      · (intro w hSw; (try dsimp only at hSw); go_simp <;> with_reducible rfl)
      simp only [Act.put, List.setIfInBounds_toArray, List.set_cons_zero, List.set_cons_succ]
      refine takeVal 12 (some 18) ?_ rfl (by kernel_rfl) (by kernel_rfl) (by kernel_rfl) rfl (fun _ _ _ h => h) (by rfl) (by assumption) ?_ ?_
      rotate_left
      · (intro w hSw; (try dsimp only at hSw); go_simp <;> with_reducible rfl)
      simp only [Act.put, List.setIfInBounds_toArray, List.set_cons_zero, List.set_cons_succ]
      refine takeVal 14 (some 20) ?_ rfl (by kernel_rfl) (by kernel_rfl) (by kernel_rfl) rfl (fun _ _ _ h => h) (by rfl) (by assumption) ?_ ?_
      rotate_left
      · (intro w hSw; (try dsimp only at hSw); go_simp <;> with_reducible rfl)
      simp only [Act.put, List.setIfInBounds_toArray, List.set_cons_zero, List.set_cons_succ]
      refine wpAnyH_ready (rs := [13]) (by kernel_rfl) (by simp) ?_
      refine AllReadyH.cons rfl (fun K hK => ?_) AllReadyH.nil
      go_simp
      refine (edit8 e a c _).mono ?_
      rintro e wk5 ⟨rfl, hb⟩
      have A_ := hide ((unhide A).ups hb)
      clear A
      have A := A_
      clear A_
      have RS_ := hide ((unhide RS).up hb)
      clear RS
      have RS := RS_
      clear RS_
      have sz6 := hide (hb.size)
      have BB_ := hide (below_y (unhide BB) hb)
      clear BB
      have BB := BB_
      clear BB_
      clear hb
      go_wp2_with fail
      refine hK.out _ _ (⟨(unhide A).cell 0 rfl, (unhide A).cell 1 rfl, (unhide A).cell 2 rfl, (unhide A).cell 3 rfl, (unhide A).cell 4 rfl, (unhide A).cell 5 rfl, (unhide A).cell 6 rfl, (unhide A).cell 7 rfl⟩) (fun hHeld2 => ?_)
      clear hK K hHeld
      have hHeld := hHeld2; clear hHeld2
      try simp only [Act.put, List.setIfInBounds_toArray, List.set_cons_zero, List.set_cons_succ]
      refine wpAnyH_ready (rs := [15]) (by kernel_rfl) (by simp) ?_
      refine AllReadyH.cons rfl (fun K hK => ?_) AllReadyH.nil
      go_simp
      refine (same8 e.box e.dst e.text e.set.length e.how e.bits e.since a c _ (unhide SM).set).mono ?_
      rintro e wk6 ⟨rfl, hb⟩
      obtain ⟨Y, hY⟩ : ∃ Y, Y = (((((([] == e.dst.toList) && decide (e.set.length = 0)) && decide ((0 : Int) = e.how)) && decide ((0 : Int) = e.bits)) && ([] == e.text.toList))) := ⟨_, rfl⟩
      rw [← hY]
      have HY := hide hY
      clear hY
      have A_ := hide ((unhide A).ups hb)
      clear A
      have A := A_
      clear A_
      have RS_ := hide ((unhide RS).up hb)
      clear RS
      have RS := RS_
      clear RS_
      have sz7 := hide (hb.size)
      have BB_ := hide (below_y (unhide BB) hb)
      clear BB
      have BB := BB_
      clear BB_
      clear hb
      go_wp2_with fail
      refine hK.out _ _ (⟨(unhide A).cell 0 rfl, (unhide A).cell 1 rfl, (unhide A).cell 2 rfl, (unhide A).cell 3 rfl, (unhide A).cell 4 rfl, (unhide A).cell 5 rfl, (unhide A).cell 6 rfl, (unhide A).cell 7 rfl⟩) (fun hHeld2 => ?_)
      clear hK K hHeld
      have hHeld := hHeld2; clear hHeld2
      try simp only [Act.put, List.setIfInBounds_toArray, List.set_cons_zero, List.set_cons_succ]
      refine takeVal 16 (some 22) ?_ rfl (by kernel_rfl) (by kernel_rfl) (by kernel_rfl) rfl (fun _ _ _ h => h) (by rfl) (by assumption) ?_ ?_
      rotate_left
      · (intro w hSw; (try dsimp only at hSw); go_simp <;> with_reducible rfl)
      simp only [Act.put, List.setIfInBounds_toArray, List.set_cons_zero, List.set_cons_succ]
      refine takeVal 17 (some 2) ?_ rfl (by kernel_rfl) (by kernel_rfl) (by kernel_rfl) rfl (fun _ _ _ h => h) (by rfl) (by assumption) ?_ ?_
      rotate_left
      · (intro w hSw; (try dsimp only at hSw); go_simp <;> with_reducible rfl)
      simp only [Act.put, List.setIfInBounds_toArray, List.set_cons_zero, List.set_cons_succ]
      have hA : Z = Y := by rw [unhide HZ, unhide HY]; simp [h1, h2]
      clear HZ
      subst hA
      refine wpAnyH_done (by kernel_rfl) ?_ _
      go_wp2
      go_ret
      exact ⟨rfl, unhide BB⟩
set_option maxHeartbeats 4000000 in
set_option maxRecDepth 100000 in
theorem okI0 (e : Ed) (a : Option Addr) (c : Nat) (w : World) (hk : inI e.kind 1 8 = false) :
    Calls Tryd.prog 15 #[.agg #[.int .i64 e.kind, .string e.box, .string e.dst, .slice a e.set.length c, .int .i64 e.how, .int .i64 e.bits, .int .i64 e.since, .string e.text]] w fun x w' => x = .returned (.bool false) ∧ Below w.heap.size w w' := by
  have DD := hide (fun W => deed0 e a c W hk)
  clear hk
  have BB := hide (Below.refl w.heap.size w)
  obtain ⟨wk1, hA⟩ : ∃ X, X = w.alloc (.cells ([.int .i64 e.kind, .string e.box, .string e.dst, .slice a e.set.length c, .int .i64 e.how, .int .i64 e.bits, .int .i64 e.since, .string e.text] : List Value).toArray 30) := ⟨_, rfl⟩
  have Ax : HasObj wk1 w.heap.size 30 [.int .i64 e.kind, .string e.box, .string e.dst, .slice a e.set.length c, .int .i64 e.how, .int .i64 e.bits, .int .i64 e.since, .string e.text] := by rw [hA]; exact HasObj.new _ _ _
  have hbn : Below w.heap.size w wk1 := by rw [hA]; exact (Below.refl _ _).alloc (Nat.le_refl _) _
  have loA : w.heap.size ≤ w.heap.size := (unhide BB).size
  have EA := hA.symm
  clear hA
  have sz1 := hide (hbn.size)
  have BB_ := hide (below_y (unhide BB) hbn)
  clear BB
  have BB := BB_
  clear BB_
  clear hbn
  have A := hide Ax
  clear Ax
  have Ac0_1 := (unhide A).cell 0 rfl
  have Ac1_1 := (unhide A).cell 1 rfl
  have Ac2_1 := (unhide A).cell 2 rfl
  have Ac3_1 := (unhide A).cell 3 rfl
  have Ac4_1 := (unhide A).cell 4 rfl
  have Ac5_1 := (unhide A).cell 5 rfl
  have Ac6_1 := (unhide A).cell 6 rfl
  have Ac7_1 := (unhide A).cell 7 rfl
  go_enter Tryd.func15, Tryd.ntmps15
  go_wp2_with fail
  clear Ac0_1 Ac1_1 Ac2_1 Ac3_1 Ac4_1 Ac5_1 Ac6_1 Ac7_1 EA
  refine (unhide DD _).mono ?_
  rintro e wk2 ⟨rfl, hb⟩
  have A_ := hide ((unhide A).ups hb)
  clear A
  have A := A_
  clear A_
  have sz2 := hide (hb.size)
  have BB_ := hide (below_y (unhide BB) hb)
  clear BB
  have BB := BB_
  clear BB_
  clear hb
  clear DD
  go_wp2
  refine wp_region_held_drew (S := fun w' => w'.cell? ⟨w.heap.size, 0, none⟩ = some (.int .i64 e.kind) ∧ w'.cell? ⟨w.heap.size, 1, none⟩ = some (.string e.box) ∧ w'.cell? ⟨w.heap.size, 2, none⟩ = some (.string e.dst) ∧ w'.cell? ⟨w.heap.size, 3, none⟩ = some (.slice a e.set.length c) ∧ w'.cell? ⟨w.heap.size, 4, none⟩ = some (.int .i64 e.how) ∧ w'.cell? ⟨w.heap.size, 5, none⟩ = some (.int .i64 e.bits) ∧ w'.cell? ⟨w.heap.size, 6, none⟩ = some (.int .i64 e.since) ∧ w'.cell? ⟨w.heap.size, 7, none⟩ = some (.string e.text)) (by kernel_rfl) (⟨(unhide A).cell 0 rfl, (unhide A).cell 1 rfl, (unhide A).cell 2 rfl, (unhide A).cell 3 rfl, (unhide A).cell 4 rfl, (unhide A).cell 5 rfl, (unhide A).cell 6 rfl, (unhide A).cell 7 rfl⟩) (fun hHeld => ?_)
  have A_ := hide ((unhide A).drew)
  clear A
  have A := A_
  clear A_
  have BB_ := hide ((unhide BB).drew)
  clear BB
  have BB := BB_
  clear BB_
  have sz3 : Hid (wk2.heap.size ≤ wk2.drew.heap.size) := Nat.le_refl _
  refine takeVal 0 (some 6) ?_ rfl (by kernel_rfl) (by kernel_rfl) (by kernel_rfl) rfl (fun _ _ _ h => h) (by rfl) (by assumption) ?_ ?_
  rotate_left
  · (intro w hSw; (try dsimp only at hSw); go_simp <;> with_reducible rfl)
  simp only [Act.put, List.setIfInBounds_toArray, List.set_cons_zero, List.set_cons_succ]
  refine takeVal 1 (some 7) ?_ rfl (by kernel_rfl) (by kernel_rfl) (by kernel_rfl) rfl (fun _ _ _ h => h) (by rfl) (by assumption) ?_ ?_
  rotate_left
  · (intro w hSw; (try dsimp only at hSw); go_simp <;> with_reducible rfl)
  simp only [Act.put, List.setIfInBounds_toArray, List.set_cons_zero, List.set_cons_succ]
  refine takeVal 2 (some 8) ?_ rfl (by kernel_rfl) (by kernel_rfl) (by kernel_rfl) rfl (fun _ _ _ h => h) (by rfl) (by assumption) ?_ ?_
  rotate_left
  · (intro w hSw; (try dsimp only at hSw); go_simp <;> with_reducible rfl)
  simp only [Act.put, List.setIfInBounds_toArray, List.set_cons_zero, List.set_cons_succ]
  refine takeSkip 3 (some 9) rfl (by kernel_rfl) (by kernel_rfl) (by kernel_rfl) rfl (fun _ _ _ h => h) (by rfl) (by assumption) ?_
  simp only [Act.put, List.setIfInBounds_toArray, List.set_cons_zero, List.set_cons_succ]
  refine takeSkip 4 (some 10) rfl (by kernel_rfl) (by kernel_rfl) (by kernel_rfl) rfl (fun _ _ _ h => h) (by rfl) (by assumption) ?_
  simp only [Act.put, List.setIfInBounds_toArray, List.set_cons_zero, List.set_cons_succ]
  refine takeSkip 5 (some 11) rfl (by kernel_rfl) (by kernel_rfl) (by kernel_rfl) rfl (fun _ _ _ h => h) (by rfl) (by assumption) ?_
  simp only [Act.put, List.setIfInBounds_toArray, List.set_cons_zero, List.set_cons_succ]
  refine takeVal 6 (some 12) ?_ rfl (by kernel_rfl) (by kernel_rfl) (by kernel_rfl) rfl (fun _ _ _ h => h) (by rfl) (by assumption) ?_ ?_
  rotate_left
  · (intro w hSw; (try dsimp only at hSw); go_simp <;> with_reducible rfl)
  simp only [Act.put, List.setIfInBounds_toArray, List.set_cons_zero, List.set_cons_succ]
  refine takeVal 7 (some 13) ?_ rfl (by kernel_rfl) (by kernel_rfl) (by kernel_rfl) rfl (fun _ _ _ h => h) (by rfl) (by assumption) ?_ ?_
  rotate_left
  · (intro w hSw; (try dsimp only at hSw); go_simp <;> with_reducible rfl)
  simp only [Act.put, List.setIfInBounds_toArray, List.set_cons_zero, List.set_cons_succ]
  refine takeSkip 8 (some 14) rfl (by kernel_rfl) (by kernel_rfl) (by kernel_rfl) rfl (fun _ _ _ h => h) (by rfl) (by assumption) ?_
  simp only [Act.put, List.setIfInBounds_toArray, List.set_cons_zero, List.set_cons_succ]
  refine takeSkip 9 (some 15) rfl (by kernel_rfl) (by kernel_rfl) (by kernel_rfl) rfl (fun _ _ _ h => h) (by rfl) (by assumption) ?_
  simp only [Act.put, List.setIfInBounds_toArray, List.set_cons_zero, List.set_cons_succ]
  refine takeVal 10 (some 16) ?_ rfl (by kernel_rfl) (by kernel_rfl) (by kernel_rfl) rfl (fun _ _ _ h => h) (by rfl) (by assumption) ?_ ?_
  rotate_left
  · (intro w hSw; (try dsimp only at hSw); go_simp <;> with_reducible rfl)
  simp only [Act.put, List.setIfInBounds_toArray, List.set_cons_zero, List.set_cons_succ]
  refine takeVal 11 (some 17) ?_ rfl (by kernel_rfl) (by kernel_rfl) (by kernel_rfl) rfl (fun _ _ _ h => h) (by rfl) (by assumption) ?_ ?_
  rotate_left
  · (intro w hSw; (try dsimp only at hSw); go_simp <;> with_reducible rfl)
  simp only [Act.put, List.setIfInBounds_toArray, List.set_cons_zero, List.set_cons_succ]
  refine takeSkip 12 (some 18) rfl (by kernel_rfl) (by kernel_rfl) (by kernel_rfl) rfl (fun _ _ _ h => h) (by rfl) (by assumption) ?_
  simp only [Act.put, List.setIfInBounds_toArray, List.set_cons_zero, List.set_cons_succ]
  refine takeSkip 13 (some 19) rfl (by kernel_rfl) (by kernel_rfl) (by kernel_rfl) rfl (fun _ _ _ h => h) (by rfl) (by assumption) ?_
  simp only [Act.put, List.setIfInBounds_toArray, List.set_cons_zero, List.set_cons_succ]
  refine takeSkip 14 (some 20) rfl (by kernel_rfl) (by kernel_rfl) (by kernel_rfl) rfl (fun _ _ _ h => h) (by rfl) (by assumption) ?_
  simp only [Act.put, List.setIfInBounds_toArray, List.set_cons_zero, List.set_cons_succ]
  refine takeSkip 15 (some 21) rfl (by kernel_rfl) (by kernel_rfl) (by kernel_rfl) rfl (fun _ _ _ h => h) (by rfl) (by assumption) ?_
  simp only [Act.put, List.setIfInBounds_toArray, List.set_cons_zero, List.set_cons_succ]
  refine takeVal 16 (some 22) ?_ rfl (by kernel_rfl) (by kernel_rfl) (by kernel_rfl) rfl (fun _ _ _ h => h) (by rfl) (by assumption) ?_ ?_
  rotate_left
  · (intro w hSw; (try dsimp only at hSw); go_simp <;> with_reducible rfl)
  simp only [Act.put, List.setIfInBounds_toArray, List.set_cons_zero, List.set_cons_succ]
  refine takeVal 17 (some 2) ?_ rfl (by kernel_rfl) (by kernel_rfl) (by kernel_rfl) rfl (fun _ _ _ h => h) (by rfl) (by assumption) ?_ ?_
  rotate_left
  · (intro w hSw; (try dsimp only at hSw); go_simp <;> with_reducible rfl)
  simp only [Act.put, List.setIfInBounds_toArray, List.set_cons_zero, List.set_cons_succ]
  refine wpAnyH_done (by kernel_rfl) ?_ _
  go_wp2
  go_ret
  exact ⟨rfl, unhide BB⟩
end Go.Proofs.YtecognggnbopaacDoor
