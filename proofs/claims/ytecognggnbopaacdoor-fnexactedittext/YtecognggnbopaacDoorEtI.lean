/- The program's EditText. Made by gen_edit.py. -/
import Derived.Test.YtecognggnbopaacDoorEtOne
import Derived.Test.YtecognggnbopaacDoorShort
import Derived.Test.YtecognggnbopaacDoorEdLaw
import Derived.Test.YtecognggnbopaacDoorImplText
namespace Go.Proofs.YtecognggnbopaacDoor
open Go.RowKit Go.ChangeShapes Go.WideShapes Go.ChangeAt Go.Deep
open Plain
set_option linter.unusedVariables false
set_option linter.unusedSimpArgs false

theorem shortI (s : ByteArray) (w : World) (h : s.size ≤ 20000) : Calls Tryd.prog 16 #[.string s] w fun e w' => e = .returned (.tuple #[.string (shB s), .bool true]) ∧ Below w.heap.size w w' := impl_ShortText_yes s w h
theorem setI (l : List Rg) (v : Value) (w : World) (hs : l.length ≤ 1048576) (h : ReadO w v l) (ht : Pow w) : Calls Tryd.prog 17 #[v] w fun e w' => e = .returned (.string (stB l)) ∧ Below w.heap.size w w' := impl_SetText_any l v w hs h ht
theorem varI (n : Int) (w : World) (h0 : 0 ≤ n) (h1 : n ≤ 1000000000) : Calls Tryd.prog 18 #[.int .i64 n] w fun e w' => e = .returned (.tuple #[.string (vaB n.toNat), .bool true]) ∧ Below w.heap.size w w' := by
  have h := impl_VarText_yes n.toNat w (by omega)
  rw [show ((n.toNat : Nat) : Int) = n by omega] at h
  exact h
set_option maxHeartbeats 4000000 in
set_option maxRecDepth 100000 in
theorem impl_EditText_any (e : Ed) (v : Value) (B : Nat) (w : World) (hs : SmallEd 1048576 e) (hr : OwnR B w v e.set) (ht : Pow w) :
    Calls Tryd.prog 7 #[edV e v] w fun x w' => x = .returned (.tuple #[.string (etV e).1, .bool (etV e).2]) ∧ Below w.heap.size w w' := by
  obtain ⟨a, c, rfl⟩ := g_shape hr
  have SM := hide hs
  have RS := hide hr
  have PW : Hid (∀ W, Below w.heap.size w W → Pow W) := fun W hb => ht.below hb
  clear hs hr ht
  have BB := hide (Below.refl w.heap.size w)
  obtain ⟨wi1, hA⟩ : ∃ X, X = w.alloc (.cells ([.int .i64 e.kind, .string e.box, .string e.dst, .slice a e.set.length c, .int .i64 e.how, .int .i64 e.bits, .int .i64 e.since, .string e.text] : List Value).toArray 30) := ⟨_, rfl⟩
  have Ax : HasObj wi1 w.heap.size 30 [.int .i64 e.kind, .string e.box, .string e.dst, .slice a e.set.length c, .int .i64 e.how, .int .i64 e.bits, .int .i64 e.since, .string e.text] := by rw [hA]; exact HasObj.new _ _ _
  have hbn : Below w.heap.size w wi1 := by rw [hA]; exact (Below.refl _ _).alloc (Nat.le_refl _) _
  have loA : w.heap.size ≤ w.heap.size := (unhide BB).size
  have EA := hA.symm
  clear hA
  have RS_ := hide ((unhide RS).up hbn)
  clear RS
  have RS := RS_
  clear RS_
  have sz1 := hide (hbn.size)
  have BB_ := hide (below_y (unhide BB) hbn)
  clear BB
  have BB := BB_
  clear BB_
  clear hbn
  have A := hide Ax
  clear Ax
  have Ac0_1 := (unhide A).cell 0 rfl
  have Ac1_1 := (unhide A).cell 1 rfl
  have Ac2_1 := (unhide A).cell 2 rfl
  have Ac3_1 := (unhide A).cell 3 rfl
  have Ac4_1 := (unhide A).cell 4 rfl
  have Ac5_1 := (unhide A).cell 5 rfl
  have Ac6_1 := (unhide A).cell 6 rfl
  have Ac7_1 := (unhide A).cell 7 rfl
  go_enter Tryd.func7, Tryd.ntmps7
  go_wp2_with fail
  clear Ac0_1 Ac1_1 Ac2_1 Ac3_1 Ac4_1 Ac5_1 Ac6_1 Ac7_1 EA
  refine (impl_EditOk_any e _ _ _ (unhide SM) (unhide RS)).mono ?_
  rintro e wi2 ⟨rfl, hb⟩
  have A_ := hide ((unhide A).ups hb)
  clear A
  have A := A_
  clear A_
  have RS_ := hide ((unhide RS).up hb)
  clear RS
  have RS := RS_
  clear RS_
  have sz2 := hide (hb.size)
  have BB_ := hide (below_y (unhide BB) hb)
  clear BB
  have BB := BB_
  clear BB_
  clear hb
  cases h1 : okE e with
  | false =>
    have ANS := hide (etV_no h1)
    clear h1
    have Ac0_2 := (unhide A).cell 0 rfl
    have Ac1_2 := (unhide A).cell 1 rfl
    have Ac2_2 := (unhide A).cell 2 rfl
    have Ac3_2 := (unhide A).cell 3 rfl
    have Ac4_2 := (unhide A).cell 4 rfl
    have Ac5_2 := (unhide A).cell 5 rfl
    have Ac6_2 := (unhide A).cell 6 rfl
    have Ac7_2 := (unhide A).cell 7 rfl
    go_wp2
    go_ret2
    rw [unhide ANS]
    exact ⟨rfl, unhide BB⟩
  | true =>
    have ANS := hide (etV_yes h1)
    have EF := hide (fit_ed h1)
    have SZ := hide (et_sizes (unhide EF))
    clear h1
    have Ac0_2 := (unhide A).cell 0 rfl
    have Ac1_2 := (unhide A).cell 1 rfl
    have Ac2_2 := (unhide A).cell 2 rfl
    have Ac3_2 := (unhide A).cell 3 rfl
    have Ac4_2 := (unhide A).cell 4 rfl
    have Ac5_2 := (unhide A).cell 5 rfl
    have Ac6_2 := (unhide A).cell 6 rfl
    have Ac7_2 := (unhide A).cell 7 rfl
    go_wp2_with fail
    clear Ac0_2 Ac1_2 Ac2_2 Ac3_2 Ac4_2 Ac5_2 Ac6_2 Ac7_2
    refine (shortI e.box _ (by have := (unhide EF).box; omega)).mono ?_
    rintro e wi3 ⟨rfl, hb⟩
    have A_ := hide ((unhide A).ups hb)
    clear A
    have A := A_
    clear A_
    have RS_ := hide ((unhide RS).up hb)
    clear RS
    have RS := RS_
    clear RS_
    have sz3 := hide (hb.size)
    have BB_ := hide (below_y (unhide BB) hb)
    clear BB
    have BB := BB_
    clear BB_
    clear hb
    have Ac0_3 := (unhide A).cell 0 rfl
    have Ac1_3 := (unhide A).cell 1 rfl
    have Ac2_3 := (unhide A).cell 2 rfl
    have Ac3_3 := (unhide A).cell 3 rfl
    have Ac4_3 := (unhide A).cell 4 rfl
    have Ac5_3 := (unhide A).cell 5 rfl
    have Ac6_3 := (unhide A).cell 6 rfl
    have Ac7_3 := (unhide A).cell 7 rfl
    go_wp2_with fail
    clear Ac0_3 Ac1_3 Ac2_3 Ac3_3 Ac4_3 Ac5_3 Ac6_3 Ac7_3
    refine (shortI e.dst _ (by have := (unhide EF).dst; omega)).mono ?_
    rintro e wi4 ⟨rfl, hb⟩
    have A_ := hide ((unhide A).ups hb)
    clear A
    have A := A_
    clear A_
    have RS_ := hide ((unhide RS).up hb)
    clear RS
    have RS := RS_
    clear RS_
    have sz4 := hide (hb.size)
    have BB_ := hide (below_y (unhide BB) hb)
    clear BB
    have BB := BB_
    clear BB_
    clear hb
    have Ac0_4 := (unhide A).cell 0 rfl
    have Ac1_4 := (unhide A).cell 1 rfl
    have Ac2_4 := (unhide A).cell 2 rfl
    have Ac3_4 := (unhide A).cell 3 rfl
    have Ac4_4 := (unhide A).cell 4 rfl
    have Ac5_4 := (unhide A).cell 5 rfl
    have Ac6_4 := (unhide A).cell 6 rfl
    have Ac7_4 := (unhide A).cell 7 rfl
    go_wp2_with fail
    clear Ac0_4 Ac1_4 Ac2_4 Ac3_4 Ac4_4 Ac5_4 Ac6_4 Ac7_4
    refine (setI e.set _ _ (unhide SM).set (unhide RS).wide (unhide PW _ (unhide BB))).mono ?_
    rintro e wi5 ⟨rfl, hb⟩
    have A_ := hide ((unhide A).ups hb)
    clear A
    have A := A_
    clear A_
    have RS_ := hide ((unhide RS).up hb)
    clear RS
    have RS := RS_
    clear RS_
    have sz5 := hide (hb.size)
    have BB_ := hide (below_y (unhide BB) hb)
    clear BB
    have BB := BB_
    clear BB_
    clear hb
    have Ac0_5 := (unhide A).cell 0 rfl
    have Ac1_5 := (unhide A).cell 1 rfl
    have Ac2_5 := (unhide A).cell 2 rfl
    have Ac3_5 := (unhide A).cell 3 rfl
    have Ac4_5 := (unhide A).cell 4 rfl
    have Ac5_5 := (unhide A).cell 5 rfl
    have Ac6_5 := (unhide A).cell 6 rfl
    have Ac7_5 := (unhide A).cell 7 rfl
    go_wp2_with fail
    clear Ac0_5 Ac1_5 Ac2_5 Ac3_5 Ac4_5 Ac5_5 Ac6_5 Ac7_5
    refine (shortI (stB e.set) _ (by have := st_size e.set; omega)).mono ?_
    rintro e wi6 ⟨rfl, hb⟩
    have A_ := hide ((unhide A).ups hb)
    clear A
    have A := A_
    clear A_
    have RS_ := hide ((unhide RS).up hb)
    clear RS
    have RS := RS_
    clear RS_
    have sz6 := hide (hb.size)
    have BB_ := hide (below_y (unhide BB) hb)
    clear BB
    have BB := BB_
    clear BB_
    clear hb
    have ws : IntKind.i64.wrap (e.since + 1) = e.since + 1 := by have q1_ := (unhide EF).since; rw [IntKind.wrap_i64]; omega
    have Ac0_6 := (unhide A).cell 0 rfl
    have Ac1_6 := (unhide A).cell 1 rfl
    have Ac2_6 := (unhide A).cell 2 rfl
    have Ac3_6 := (unhide A).cell 3 rfl
    have Ac4_6 := (unhide A).cell 4 rfl
    have Ac5_6 := (unhide A).cell 5 rfl
    have Ac6_6 := (unhide A).cell 6 rfl
    have Ac7_6 := (unhide A).cell 7 rfl
    go_wp2_with fail
    clear Ac0_6 Ac1_6 Ac2_6 Ac3_6 Ac4_6 Ac5_6 Ac6_6 Ac7_6
    refine (varI (e.since + 1) _ (by have := (unhide EF).since; omega) (by have := (unhide EF).since; omega)).mono ?_
    rintro e wi7 ⟨rfl, hb⟩
    have A_ := hide ((unhide A).ups hb)
    clear A
    have A := A_
    clear A_
    have RS_ := hide ((unhide RS).up hb)
    clear RS
    have RS := RS_
    clear RS_
    have sz7 := hide (hb.size)
    have BB_ := hide (below_y (unhide BB) hb)
    clear BB
    have BB := BB_
    clear BB_
    clear hb
    have Ac0_7 := (unhide A).cell 0 rfl
    have Ac1_7 := (unhide A).cell 1 rfl
    have Ac2_7 := (unhide A).cell 2 rfl
    have Ac3_7 := (unhide A).cell 3 rfl
    have Ac4_7 := (unhide A).cell 4 rfl
    have Ac5_7 := (unhide A).cell 5 rfl
    have Ac6_7 := (unhide A).cell 6 rfl
    have Ac7_7 := (unhide A).cell 7 rfl
    go_wp2_with fail
    clear Ac0_7 Ac1_7 Ac2_7 Ac3_7 Ac4_7 Ac5_7 Ac6_7 Ac7_7
    refine (shortI e.text _ (by have := (unhide EF).text; omega)).mono ?_
    rintro e wi8 ⟨rfl, hb⟩
    have A_ := hide ((unhide A).ups hb)
    clear A
    have A := A_
    clear A_
    have RS_ := hide ((unhide RS).up hb)
    clear RS
    have RS := RS_
    clear RS_
    have sz8 := hide (hb.size)
    have BB_ := hide (below_y (unhide BB) hb)
    clear BB
    have BB := BB_
    clear BB_
    clear hb
    have a1 : ∀ y, binOp .add y (.string (oneB e.kind.toNat)) (.string (shB e.box)) = pure (.string (et1 e)) := fun y => by rw [addS _ _ (by have h1 := (unhide SZ).s0; have h2 := (unhide SZ).s1; omega) y]; rfl
    have a2 : ∀ y, binOp .add y (.string (et1 e)) (.string (shB e.dst)) = pure (.string (et2 e)) := fun y => by rw [addS _ _ (by have h1 := (unhide SZ).p1; have h2 := (unhide SZ).s2; omega) y]; rfl
    have a3 : ∀ y, binOp .add y (.string (et2 e)) (.string (shB (stB e.set))) = pure (.string (et3 e)) := fun y => by rw [addS _ _ (by have h1 := (unhide SZ).p2; have h2 := (unhide SZ).s3; omega) y]; rfl
    have a4 : ∀ y, binOp .add y (.string (et3 e)) (.string (oneB e.how.toNat)) = pure (.string (et4 e)) := fun y => by rw [addS _ _ (by have h1 := (unhide SZ).p3; have h2 := (unhide SZ).s4; omega) y]; rfl
    have a5 : ∀ y, binOp .add y (.string (et4 e)) (.string (oneB e.bits.toNat)) = pure (.string (et5 e)) := fun y => by rw [addS _ _ (by have h1 := (unhide SZ).p4; have h2 := (unhide SZ).s5; omega) y]; rfl
    have a6 : ∀ y, binOp .add y (.string (et5 e)) (.string (vaB (e.since + 1).toNat)) = pure (.string (et6 e)) := fun y => by rw [addS _ _ (by have h1 := (unhide SZ).p5; have h2 := (unhide SZ).s6; omega) y]; rfl
    have a7 : ∀ y, binOp .add y (.string (et6 e)) (.string (shB e.text)) = pure (.string (et7 e)) := fun y => by rw [addS _ _ (by have h1 := (unhide SZ).p6; have h2 := (unhide SZ).s7; omega) y]; rfl
    have Ac0_8 := (unhide A).cell 0 rfl
    have Ac1_8 := (unhide A).cell 1 rfl
    have Ac2_8 := (unhide A).cell 2 rfl
    have Ac3_8 := (unhide A).cell 3 rfl
    have Ac4_8 := (unhide A).cell 4 rfl
    have Ac5_8 := (unhide A).cell 5 rfl
    have Ac6_8 := (unhide A).cell 6 rfl
    have Ac7_8 := (unhide A).cell 7 rfl
    go_wp2
    clear Ac0_8 Ac1_8 Ac2_8 Ac3_8 Ac4_8 Ac5_8 Ac6_8 Ac7_8
    refine wp_region_held_drew (S := fun w' => w'.cell? ⟨w.heap.size, 0, none⟩ = some (.int .i64 e.kind) ∧ w'.cell? ⟨w.heap.size, 4, none⟩ = some (.int .i64 e.how) ∧ w'.cell? ⟨w.heap.size, 5, none⟩ = some (.int .i64 e.bits)) (by kernel_rfl) (⟨(unhide A).cell 0 rfl, (unhide A).cell 4 rfl, (unhide A).cell 5 rfl⟩) (fun hHeld => ?_)
    have A_ := hide ((unhide A).drew)
    clear A
    have A := A_
    clear A_
    have RS_ := hide ((unhide RS).drew)
    clear RS
    have RS := RS_
    clear RS_
    have BB_ := hide ((unhide BB).drew)
    clear BB
    have BB := BB_
    clear BB_
    have sz9 : Hid (wi8.heap.size ≤ wi8.drew.heap.size) := Nat.le_refl _
    refine takeVal 0 (some 49) ?_ rfl (by kernel_rfl) (by kernel_rfl) (by kernel_rfl) rfl (fun _ _ _ h => h) (by rfl) (by assumption) ?_ ?_
    rotate_left
    · (intro w hSw; (try dsimp only at hSw); go_simp <;> with_reducible rfl)
    simp only [Act.put, List.setIfInBounds_toArray, List.set_cons_zero, List.set_cons_succ]
    refine takeVal 1 (some 50) ?_ rfl (by kernel_rfl) (by kernel_rfl) (by kernel_rfl) rfl (fun _ _ _ h => h) (by rfl) (by assumption) ?_ ?_
    rotate_left
    · (intro w hSw; (try dsimp only at hSw); go_simp <;> with_reducible rfl)
    simp only [Act.put, List.setIfInBounds_toArray, List.set_cons_zero, List.set_cons_succ]
    refine takeVal 9 (some 58) ?_ rfl (by kernel_rfl) (by kernel_rfl) (by kernel_rfl) rfl (fun _ _ _ h => h) (by rfl) (by assumption) ?_ ?_
    rotate_left
    · (intro w hSw; (try dsimp only at hSw); go_simp <;> with_reducible rfl)
    simp only [Act.put, List.setIfInBounds_toArray, List.set_cons_zero, List.set_cons_succ]
    refine takeVal 10 (some 59) ?_ rfl (by kernel_rfl) (by kernel_rfl) (by kernel_rfl) rfl (fun _ _ _ h => h) (by rfl) (by assumption) ?_ ?_
    rotate_left
    · (intro w hSw; (try dsimp only at hSw); go_simp <;> with_reducible rfl)
    simp only [Act.put, List.setIfInBounds_toArray, List.set_cons_zero, List.set_cons_succ]
    refine takeVal 13 (some 62) ?_ rfl (by kernel_rfl) (by kernel_rfl) (by kernel_rfl) rfl (fun _ _ _ h => h) (by rfl) (by assumption) ?_ ?_
    rotate_left
    · (intro w hSw; (try dsimp only at hSw); go_simp <;> with_reducible rfl)
    simp only [Act.put, List.setIfInBounds_toArray, List.set_cons_zero, List.set_cons_succ]
    refine takeVal 14 (some 63) ?_ rfl (by kernel_rfl) (by kernel_rfl) (by kernel_rfl) rfl (fun _ _ _ h => h) (by rfl) (by assumption) ?_ ?_
    rotate_left
    · (intro w hSw; (try dsimp only at hSw); go_simp <;> with_reducible rfl)
    simp only [Act.put, List.setIfInBounds_toArray, List.set_cons_zero, List.set_cons_succ]
    refine takeVal 3 (some 52) ?_ rfl (by kernel_rfl) (by kernel_rfl) (by kernel_rfl) rfl (fun _ _ _ h => h) (by rfl) (by assumption) ?_ ?_
    rotate_left
    · (intro w hSw; (try dsimp only at hSw); go_simp <;> with_reducible rfl)
    simp only [Act.put, List.setIfInBounds_toArray, List.set_cons_zero, List.set_cons_succ]
    refine takeVal 5 (some 54) ?_ rfl (by kernel_rfl) (by kernel_rfl) (by kernel_rfl) rfl (fun _ _ _ h => h) (by rfl) (by assumption) ?_ ?_
    rotate_left
    · (intro w hSw; (try dsimp only at hSw); go_simp <;> with_reducible rfl)
    simp only [Act.put, List.setIfInBounds_toArray, List.set_cons_zero, List.set_cons_succ]
    refine takeVal 7 (some 56) ?_ rfl (by kernel_rfl) (by kernel_rfl) (by kernel_rfl) rfl (fun _ _ _ h => h) (by rfl) (by assumption) ?_ ?_
    rotate_left
    · (intro w hSw; (try dsimp only at hSw); go_simp <;> with_reducible rfl)
    simp only [Act.put, List.setIfInBounds_toArray, List.set_cons_zero, List.set_cons_succ]
    refine takeVal 17 (some 66) ?_ rfl (by kernel_rfl) (by kernel_rfl) (by kernel_rfl) rfl (fun _ _ _ h => h) (by rfl) (by assumption) ?_ ?_
    rotate_left
    · (intro w hSw; (try dsimp only at hSw); go_simp <;> with_reducible rfl)
    simp only [Act.put, List.setIfInBounds_toArray, List.set_cons_zero, List.set_cons_succ]
    refine takeVal 19 (some 68) ?_ rfl (by kernel_rfl) (by kernel_rfl) (by kernel_rfl) rfl (fun _ _ _ h => h) (by rfl) (by assumption) ?_ ?_
    rotate_left
    · (intro w hSw; (try dsimp only at hSw); go_simp <;> with_reducible rfl)
    simp only [Act.put, List.setIfInBounds_toArray, List.set_cons_zero, List.set_cons_succ]
    refine wpAnyH_ready (rs := [2]) (by kernel_rfl) (by simp) ?_
    refine AllReadyH.cons rfl (fun K hK => ?_) AllReadyH.nil
    go_simp
    refine (oneByte_any e.kind _ (unhide EF).kind.1 (by have := (unhide EF).kind.2; omega)).mono ?_
    rintro e wi9 ⟨rfl, hb⟩
    have A_ := hide ((unhide A).ups hb)
    clear A
    have A := A_
    clear A_
    have RS_ := hide ((unhide RS).up hb)
    clear RS
    have RS := RS_
    clear RS_
    have sz10 := hide (hb.size)
    have BB_ := hide (below_y (unhide BB) hb)
    clear BB
    have BB := BB_
    clear BB_
    clear hb
    go_wp2_with fail
    refine hK.out _ _ (⟨(unhide A).cell 0 rfl, (unhide A).cell 4 rfl, (unhide A).cell 5 rfl⟩) (fun hHeld2 => ?_)
    clear hK K hHeld
    have hHeld := hHeld2; clear hHeld2
    try simp only [Act.put, List.setIfInBounds_toArray, List.set_cons_zero, List.set_cons_succ]
    refine takeVal 4 (some 53) ?_ rfl (by kernel_rfl) (by kernel_rfl) (by kernel_rfl) rfl (fun _ _ _ h => h) (by rfl) (by assumption) ?_ ?_
    rotate_left
    · (intro w hSw; (try dsimp only at hSw); go_simp <;> with_reducible rfl)
    simp only [Act.put, List.setIfInBounds_toArray, List.set_cons_zero, List.set_cons_succ]
    refine takeVal 6 (some 55) ?_ rfl (by kernel_rfl) (by kernel_rfl) (by kernel_rfl) rfl (fun _ _ _ h => h) (by rfl) (by assumption) ?_ ?_
    rotate_left
    · (intro w hSw; (try dsimp only at hSw); go_simp <;> with_reducible rfl)
    simp only [Act.put, List.setIfInBounds_toArray, List.set_cons_zero, List.set_cons_succ]
    refine takeVal 8 (some 57) ?_ rfl (by kernel_rfl) (by kernel_rfl) (by kernel_rfl) rfl (fun _ _ _ h => h) (by rfl) (by assumption) ?_ ?_
    rotate_left
    · (intro w hSw; (try dsimp only at hSw); go_simp <;> with_reducible rfl)
    simp only [Act.put, List.setIfInBounds_toArray, List.set_cons_zero, List.set_cons_succ]
    refine wpAnyH_ready (rs := [11]) (by kernel_rfl) (by simp) ?_
    refine AllReadyH.cons rfl (fun K hK => ?_) AllReadyH.nil
    go_simp
    refine (oneByte_any e.how _ (unhide EF).how.1 (by have := (unhide EF).how.2; omega)).mono ?_
    rintro e wi10 ⟨rfl, hb⟩
    have A_ := hide ((unhide A).ups hb)
    clear A
    have A := A_
    clear A_
    have RS_ := hide ((unhide RS).up hb)
    clear RS
    have RS := RS_
    clear RS_
    have sz11 := hide (hb.size)
    have BB_ := hide (below_y (unhide BB) hb)
    clear BB
    have BB := BB_
    clear BB_
    clear hb
    go_wp2_with fail
    refine hK.out _ _ (⟨(unhide A).cell 0 rfl, (unhide A).cell 4 rfl, (unhide A).cell 5 rfl⟩) (fun hHeld2 => ?_)
    clear hK K hHeld
    have hHeld := hHeld2; clear hHeld2
    try simp only [Act.put, List.setIfInBounds_toArray, List.set_cons_zero, List.set_cons_succ]
    refine takeVal 12 (some 61) ?_ rfl (by kernel_rfl) (by kernel_rfl) (by kernel_rfl) rfl (fun _ _ _ h => h) (by rfl) (by assumption) ?_ ?_
    rotate_left
    · (intro w hSw; (try dsimp only at hSw); go_simp <;> with_reducible rfl)
    simp only [Act.put, List.setIfInBounds_toArray, List.set_cons_zero, List.set_cons_succ]
    refine wpAnyH_ready (rs := [15]) (by kernel_rfl) (by simp) ?_
    refine AllReadyH.cons rfl (fun K hK => ?_) AllReadyH.nil
    go_simp
    refine (oneByte_any e.bits _ (unhide EF).bits.1 (by have := (unhide EF).bits.2; omega)).mono ?_
    rintro e wi11 ⟨rfl, hb⟩
    have A_ := hide ((unhide A).ups hb)
    clear A
    have A := A_
    clear A_
    have RS_ := hide ((unhide RS).up hb)
    clear RS
    have RS := RS_
    clear RS_
    have sz12 := hide (hb.size)
    have BB_ := hide (below_y (unhide BB) hb)
    clear BB
    have BB := BB_
    clear BB_
    clear hb
    go_wp2_with fail
    refine hK.out _ _ (⟨(unhide A).cell 0 rfl, (unhide A).cell 4 rfl, (unhide A).cell 5 rfl⟩) (fun hHeld2 => ?_)
    clear hK K hHeld
    have hHeld := hHeld2; clear hHeld2
    try simp only [Act.put, List.setIfInBounds_toArray, List.set_cons_zero, List.set_cons_succ]
    refine takeVal 16 (some 65) ?_ rfl (by kernel_rfl) (by kernel_rfl) (by kernel_rfl) rfl (fun _ _ _ h => h) (by rfl) (by assumption) ?_ ?_
    rotate_left
    · (intro w hSw; (try dsimp only at hSw); go_simp <;> with_reducible rfl)
    simp only [Act.put, List.setIfInBounds_toArray, List.set_cons_zero, List.set_cons_succ]
    refine takeVal 18 (some 67) ?_ rfl (by kernel_rfl) (by kernel_rfl) (by kernel_rfl) rfl (fun _ _ _ h => h) (by rfl) (by assumption) ?_ ?_
    rotate_left
    · (intro w hSw; (try dsimp only at hSw); go_simp <;> with_reducible rfl)
    simp only [Act.put, List.setIfInBounds_toArray, List.set_cons_zero, List.set_cons_succ]
    refine takeVal 20 (some 69) ?_ rfl (by kernel_rfl) (by kernel_rfl) (by kernel_rfl) rfl (fun _ _ _ h => h) (by rfl) (by assumption) ?_ ?_
    rotate_left
    · (intro w hSw; (try dsimp only at hSw); go_simp <;> with_reducible rfl)
    simp only [Act.put, List.setIfInBounds_toArray, List.set_cons_zero, List.set_cons_succ]
    refine takeVal 21 (some 2) ?_ rfl (by kernel_rfl) (by kernel_rfl) (by kernel_rfl) rfl (fun _ _ _ h => h) (by rfl) (by assumption) ?_ ?_
    rotate_left
    · (intro w hSw; (try dsimp only at hSw); go_simp <;> with_reducible rfl)
    simp only [Act.put, List.setIfInBounds_toArray, List.set_cons_zero, List.set_cons_succ]
    refine takeVal 22 (some 3) ?_ rfl (by kernel_rfl) (by kernel_rfl) (by kernel_rfl) rfl (fun _ _ _ h => h) (by rfl) (by assumption) ?_ ?_
    rotate_left
    · (intro w hSw; (try dsimp only at hSw); go_simp <;> with_reducible rfl)
    simp only [Act.put, List.setIfInBounds_toArray, List.set_cons_zero, List.set_cons_succ]
    refine wpAnyH_done (by kernel_rfl) ?_ _
    go_wp2
    go_ret2
    rw [unhide ANS]
    exact ⟨rfl, unhide BB⟩
end Go.Proofs.YtecognggnbopaacDoor
