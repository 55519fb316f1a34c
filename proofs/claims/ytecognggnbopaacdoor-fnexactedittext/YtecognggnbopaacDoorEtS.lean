/- The specification's EditText. Made by gen_edit.py. -/
import Derived.Test.YtecognggnbopaacDoorTv
import Derived.Test.YtecognggnbopaacDoorEtOne
import Derived.Test.YtecognggnbopaacDoorEdLaw
import Derived.Test.YtecognggnbopaacDoorSetText
namespace Go.Proofs.YtecognggnbopaacDoor
open Go.RowKit Go.ChangeShapes Go.WideShapes Go.ChangeAt Go.Deep
open Plain
set_option linter.unusedVariables false
set_option linter.unusedSimpArgs false

theorem uh {p : Prop} (h : RowKit.Hid p) : p := h
section
variable {P : Program} {ops : Array Oper} {Q : Exit → Act → World → Prop} {md : Region.Mode}
theorem wpAnyH_str {S S' : World → Prop} (hi : ∀ w, S' w → S w) : ∀ (fuel : Nat) (listed : Array Bool) (a : Act) (w : World), wpAnyH P md ops Q S' fuel listed a w → wpAnyH P md ops Q S fuel listed a w
 | 0, _, _, _, h => h
 | fuel + 1, _, _, _, h => ⟨h.1, fun i hm => wpOp_mono (fun a' w' h' => ⟨hi w' h'.1, wpAnyH_str hi fuel _ a' w' h'.2⟩) (h.2 i hm)⟩
theorem heldMore {S : World → Prop} (S2 : World → Prop) {fuel : Nat} {listed : Array Bool} {a : Act} {w : World} (h2 : S2 w) (h1 : S w) (h : S2 w ∧ S w → wpAnyH P md ops Q (fun w => S2 w ∧ S w) fuel listed a w) : wpAnyH P md ops Q S fuel listed a w :=
 wpAnyH_str (fun _ h => h.2) fuel listed a w (h ⟨h2, h1⟩)
end
theorem varS (n : Int) (w : World) (h0 : 0 ≤ n) (h1 : n ≤ 1000000000) : Calls Tryd.prog 13 #[.int .i64 n] w fun e w' => e = .returned (.string (vaB n.toNat)) ∧ Below w.heap.size w w' := by
 have h := l01Var_any n.toNat w (by omega)
 rw [show ((n.toNat : Nat) : Int) = n by omega] at h
 exact h
theorem setS (l : List Rg) (v : Value) (B : Nat) (w : World) (hs : l.length ≤ 1048576) (h : OwnR B w v l) : Calls Tryd.prog 12 #[v] w fun e w' => e = .returned (.string (stB l)) ∧ Below w.heap.size w w' := spec_SetText_any l v w hs h.read
set_option maxHeartbeats 4000000 in
set_option maxRecDepth 100000 in
theorem shortS (s : ByteArray) (w : World) (h : s.size ≤ 20000) : Calls Tryd.prog 11 #[.string s] w fun e w' => e = .returned (.string (shB s)) ∧ Below w.heap.size w w' := by
 have hl : (varL s.size).length ≤ 11 := varL_length _
 go_enter Tryd.func11, Tryd.ntmps11
 go_wp2_with (first | (go_at_call 13; refine (l01Var_any s.size _ (by omega)).mono ?_; rintro e w1 ⟨rfl, hb⟩))
 go_ret
 exact ⟨rfl, by assumption⟩
set_option maxHeartbeats 16000000 in
set_option maxRecDepth 100000 in
theorem spec_EditText_any (e : Ed) (v : Value) (B : Nat) (w : World) (hs : SmallEd 1048576 e) (hr : OwnR B w v e.set) :
  Calls Tryd.prog 5 #[edV e v] w fun x w' => x = .returned (.tuple #[.string (etV e).1, .bool (etV e).2]) ∧ Below w.heap.size w w' := by
 obtain ⟨a, c, rfl⟩ := g_shape hr
 have SM := hide hs; have RS := hide hr; clear hs hr; have BB := hide (Below.refl w.heap.size w)
 obtain ⟨ws1, hA⟩ : ∃ X, X = w.alloc (.cells ([.int .i64 e.kind, .string e.box, .string e.dst, .slice a e.set.length c, .int .i64 e.how, .int .i64 e.bits, .int .i64 e.since, .string e.text] : List Value).toArray 30) := ⟨_, rfl⟩
 have Ax : HasObj ws1 w.heap.size 30 [.int .i64 e.kind, .string e.box, .string e.dst, .slice a e.set.length c, .int .i64 e.how, .int .i64 e.bits, .int .i64 e.since, .string e.text] := by rw [hA]; exact HasObj.new _ _ _
 have hbn : Below w.heap.size w ws1 := by rw [hA]; exact (Below.refl _ _).alloc (Nat.le_refl _) _
 have loA : w.heap.size ≤ w.heap.size := (uh BB).size
 have EA := hA.symm; clear hA; replace RS := hide ((uh RS).up hbn); have sz1 := hide (hbn.size); replace BB := hide (below_y (uh BB) hbn); clear hbn; have A := hide Ax; clear Ax; have Ac0_1 := (uh A).cell 0 rfl; have Ac1_1 := (uh A).cell 1 rfl; have Ac2_1 := (uh A).cell 2 rfl; have Ac3_1 := (uh A).cell 3 rfl; have Ac4_1 := (uh A).cell 4 rfl; have Ac5_1 := (uh A).cell 5 rfl; have Ac6_1 := (uh A).cell 6 rfl; have Ac7_1 := (uh A).cell 7 rfl
 go_enter Tryd.func5, Tryd.ntmps5
 go_wp2_with fail; clear Ac0_1 Ac1_1 Ac2_1 Ac3_1 Ac4_1 Ac5_1 Ac6_1 Ac7_1 EA
 refine (spec_EditOk_any e _ _ _ (uh SM) (uh RS)).mono ?_
 rintro e ws2 ⟨rfl, hb⟩
 replace A := hide ((uh A).ups hb); replace RS := hide ((uh RS).up hb); have sz2 := hide (hb.size); replace BB := hide (below_y (uh BB) hb); clear hb
 cases h1 : okE e with
 | false =>
  have ANS := hide (etV_no h1); clear h1; have Ac0_2 := (uh A).cell 0 rfl; have Ac1_2 := (uh A).cell 1 rfl; have Ac2_2 := (uh A).cell 2 rfl; have Ac3_2 := (uh A).cell 3 rfl; have Ac4_2 := (uh A).cell 4 rfl; have Ac5_2 := (uh A).cell 5 rfl; have Ac6_2 := (uh A).cell 6 rfl; have Ac7_2 := (uh A).cell 7 rfl
  go_wp2
  go_ret2
  rw [uh ANS]
  exact ⟨rfl, uh BB⟩
 | true =>
  have ANS := hide (etV_yes h1); have EF := hide (fit_ed h1); have SZ := hide (et_sizes (uh EF)); clear h1
  have a1 : ∀ y, binOp .add y (.string (oneB e.kind.toNat)) (.string (shB e.box)) = pure (.string (et1 e)) := fun y => by rw [addS _ _ (by have h1 := (uh SZ).s0; have h2 := (uh SZ).s1; omega) y]; rfl
  have a2 : ∀ y, binOp .add y (.string (et1 e)) (.string (shB e.dst)) = pure (.string (et2 e)) := fun y => by rw [addS _ _ (by have h1 := (uh SZ).p1; have h2 := (uh SZ).s2; omega) y]; rfl
  have a3 : ∀ y, binOp .add y (.string (et2 e)) (.string (shB (stB e.set))) = pure (.string (et3 e)) := fun y => by rw [addS _ _ (by have h1 := (uh SZ).p2; have h2 := (uh SZ).s3; omega) y]; rfl
  have a5 : ∀ y, binOp .add y (.string (et3 e)) (.string (pairB e.how.toNat e.bits.toNat)) = pure (.string (et5 e)) := fun y => by rw [addS _ _ (by have h1 := (uh SZ).p3; have h2 := (uh SZ).s45; omega) y]; rw [et5_two]
  have a6 : ∀ y, binOp .add y (.string (et5 e)) (.string (vaB (e.since + 1).toNat)) = pure (.string (et6 e)) := fun y => by rw [addS _ _ (by have h1 := (uh SZ).p5; have h2 := (uh SZ).s6; omega) y]; rfl
  have a7 : ∀ y, binOp .add y (.string (et6 e)) (.string (shB e.text)) = pure (.string (et7 e)) := fun y => by rw [addS _ _ (by have h1 := (uh SZ).p6; have h2 := (uh SZ).s7; omega) y]; rfl
  have wk : IntKind.u8.wrap e.kind = e.kind := wrapB (uh EF).kind.1 (by have := (uh EF).kind.2; omega)
  have wh : IntKind.u8.wrap e.how = e.how := wrapB (uh EF).how.1 (by have := (uh EF).how.2; omega)
  have wb : IntKind.u8.wrap e.bits = e.bits := wrapB (uh EF).bits.1 (by have := (uh EF).bits.2; omega)
  have ws : IntKind.i64.wrap (e.since + 1) = e.since + 1 := by have q1_ := (uh EF).since; rw [IntKind.wrap_i64]; omega
  have CV1 := conv1 (uh EF).kind.1 (show e.kind < 256 by have := (uh EF).kind.2; omega)
  have CV2 := conv2 (uh EF).how.1 (show e.how < 256 by have := (uh EF).how.2; omega) (uh EF).bits.1 (show e.bits < 256 by have := (uh EF).bits.2; omega)
  have Ac0_2 := (uh A).cell 0 rfl; have Ac1_2 := (uh A).cell 1 rfl; have Ac2_2 := (uh A).cell 2 rfl; have Ac3_2 := (uh A).cell 3 rfl; have Ac4_2 := (uh A).cell 4 rfl; have Ac5_2 := (uh A).cell 5 rfl; have Ac6_2 := (uh A).cell 6 rfl; have Ac7_2 := (uh A).cell 7 rfl
  go_wp2
  clear Ac0_2 Ac1_2 Ac2_2 Ac3_2 Ac4_2 Ac5_2 Ac6_2 Ac7_2
  refine wp_region_held_drew (S := fun w' => w'.cell? ⟨w.heap.size, 0, none⟩ = some (.int .i64 e.kind) ∧ w'.cell? ⟨w.heap.size, 1, none⟩ = some (.string e.box) ∧ w'.cell? ⟨w.heap.size, 2, none⟩ = some (.string e.dst) ∧ w'.cell? ⟨w.heap.size, 3, none⟩ = some (.slice a e.set.length c) ∧ w'.cell? ⟨w.heap.size, 4, none⟩ = some (.int .i64 e.how) ∧ w'.cell? ⟨w.heap.size, 5, none⟩ = some (.int .i64 e.bits) ∧ w'.cell? ⟨w.heap.size, 6, none⟩ = some (.int .i64 e.since) ∧ w'.cell? ⟨w.heap.size, 7, none⟩ = some (.string e.text)) (by kernel_rfl) (⟨(uh A).cell 0 rfl, (uh A).cell 1 rfl, (uh A).cell 2 rfl, (uh A).cell 3 rfl, (uh A).cell 4 rfl, (uh A).cell 5 rfl, (uh A).cell 6 rfl, (uh A).cell 7 rfl⟩) (fun hHeld => ?_)
  replace A := hide ((uh A).drew); replace RS := hide ((uh RS).drew); replace BB := hide ((uh BB).drew)
  have sz3 : Hid (ws2.heap.size ≤ ws2.drew.heap.size) := Nat.le_refl _
  refine tv 0 7 ?_; refine tv 1 8 ?_; refine tv 2 9 ?_; refine tv 5 12 ?_; refine tv 6 13 ?_; refine tv 9 16 ?_; refine tv 10 17 ?_; refine tv 13 20 ?_; refine tv 14 21 ?_; refine tv 18 25 ?_; refine tv 19 26 ?_; refine tv 20 27 ?_; refine tv 21 28 ?_; refine tv 22 29 ?_; refine tv 23 30 ?_; refine tv 27 34 ?_; refine tv 28 35 ?_; refine tv 29 36 ?_; refine tv 32 39 ?_; refine tv 33 40 ?_
  refine wpAnyH_ready (rs := [3, 7, 24]) (by kernel_rfl) (by simp) ?_
  refine (AllReadyH.cons rfl (fun K hK => ?_) (AllReadyH.cons rfl (fun K hK => ?_) (AllReadyH.cons rfl (fun K hK => ?_) AllReadyH.nil)))
  ·as_aux_lemma =>
    go_simp
    obtain ⟨ws3, hX⟩ : ∃ X, X = (ws2.alloc (.cells ([.int .u8 e.kind] : List Value).toArray 5)).drew := ⟨_, rfl⟩
    rw [← hX]
    have K1x : HasObj ws3 ws2.heap.size 5 [.int .u8 e.kind] := by rw [hX]; exact (HasObj.new _ _ _).drew
    have hbn : Below ws2.drew.heap.size ws2.drew ws3 := by rw [hX]; exact (Below.refl ws2.drew.heap.size ws2.drew).alloc (Nat.le_refl _) _
    clear hX; replace A := hide ((uh A).ups hbn); replace RS := hide ((uh RS).up hbn); have sz4 := hide (hbn.size); replace BB := hide (below_y (uh BB) hbn); clear hbn; have K1 := hide K1x; clear K1x
    refine hK.out _ _ (⟨(uh A).cell 0 rfl, (uh A).cell 1 rfl, (uh A).cell 2 rfl, (uh A).cell 3 rfl, (uh A).cell 4 rfl, (uh A).cell 5 rfl, (uh A).cell 6 rfl, (uh A).cell 7 rfl⟩) (fun hHeld2 => ?_)
    clear hK K hHeld; have hHeld := hHeld2; clear hHeld2
    try simp only [Act.put, p1, p2, p3]
    refine heldMore (fun w' => w'.cell? ⟨ws2.heap.size, 0, none⟩ = some (.int .u8 e.kind)) ((uh K1).cell 0 rfl) hHeld (fun hHeld2 => ?_)
    clear hHeld; have hHeld := hHeld2; clear hHeld2; have K1v := CV1 (ws2.heap.size)
    refine tv 4 11 ?_
    clear K1v
    refine wpAnyH_ready (rs := [7, 24]) (by kernel_rfl) (by simp) ?_
    refine (AllReadyH.cons rfl (fun K hK => ?_) (AllReadyH.cons rfl (fun K hK => ?_) AllReadyH.nil))
    ·as_aux_lemma =>
      go_simp
      refine (shortS e.box _ (by have := (uh EF).box; omega)).mono ?_
      rintro x ws4 ⟨rfl, hb⟩
      replace A := hide ((uh A).ups hb); replace K1 := hide ((uh K1).ups hb); replace RS := hide ((uh RS).up hb); have sz5 := hide (hb.size); replace BB := hide (below_y (uh BB) hb); clear hb; go_wp2_with fail
      refine hK.out _ _ (⟨(uh K1).cell 0 rfl, (uh A).cell 0 rfl, (uh A).cell 1 rfl, (uh A).cell 2 rfl, (uh A).cell 3 rfl, (uh A).cell 4 rfl, (uh A).cell 5 rfl, (uh A).cell 6 rfl, (uh A).cell 7 rfl⟩) (fun hHeld2 => ?_)
      clear hK K hHeld; have hHeld := hHeld2; clear hHeld2
      try simp only [Act.put, p1, p2, p3]
      refine tv 8 15 ?_
      refine wpAnyH_ready (rs := [11, 24]) (by kernel_rfl) (by simp) ?_
      refine (AllReadyH.cons rfl (fun K hK => ?_) (AllReadyH.cons rfl (fun K hK => ?_) AllReadyH.nil))
      ·as_aux_lemma =>
        go_simp
        refine (shortS e.dst _ (by have := (uh EF).dst; omega)).mono ?_
        rintro x ws5 ⟨rfl, hb⟩
        replace A := hide ((uh A).ups hb); replace K1 := hide ((uh K1).ups hb); replace RS := hide ((uh RS).up hb); have sz6 := hide (hb.size); replace BB := hide (below_y (uh BB) hb); clear hb; go_wp2_with fail
        refine hK.out _ _ (⟨(uh K1).cell 0 rfl, (uh A).cell 0 rfl, (uh A).cell 1 rfl, (uh A).cell 2 rfl, (uh A).cell 3 rfl, (uh A).cell 4 rfl, (uh A).cell 5 rfl, (uh A).cell 6 rfl, (uh A).cell 7 rfl⟩) (fun hHeld2 => ?_)
        clear hK K hHeld; have hHeld := hHeld2; clear hHeld2
        try simp only [Act.put, p1, p2, p3]
        refine tv 12 19 ?_
        refine wpAnyH_ready (rs := [15, 24]) (by kernel_rfl) (by simp) ?_
        refine (AllReadyH.cons rfl (fun K hK => ?_) (AllReadyH.cons rfl (fun K hK => ?_) AllReadyH.nil))
        ·as_aux_lemma =>
          go_simp
          refine (setS e.set _ _ _ (uh SM).set (uh RS)).mono ?_
          rintro x ws6 ⟨rfl, hb⟩
          replace A := hide ((uh A).ups hb); replace K1 := hide ((uh K1).ups hb); replace RS := hide ((uh RS).up hb); have sz7 := hide (hb.size); replace BB := hide (below_y (uh BB) hb); clear hb; go_wp2_with fail
          refine hK.out _ _ (⟨(uh K1).cell 0 rfl, (uh A).cell 0 rfl, (uh A).cell 1 rfl, (uh A).cell 2 rfl, (uh A).cell 3 rfl, (uh A).cell 4 rfl, (uh A).cell 5 rfl, (uh A).cell 6 rfl, (uh A).cell 7 rfl⟩) (fun hHeld2 => ?_)
          clear hK K hHeld; have hHeld := hHeld2; clear hHeld2
          try simp only [Act.put, p1, p2, p3]
          refine wpAnyH_ready (rs := [16, 24]) (by kernel_rfl) (by simp) ?_
          refine (AllReadyH.cons rfl (fun K hK => ?_) (AllReadyH.cons rfl (fun K hK => ?_) AllReadyH.nil))
          ·as_aux_lemma =>
            go_simp
            refine (shortS (stB e.set) _ (by have := st_size e.set; omega)).mono ?_
            rintro x ws7 ⟨rfl, hb⟩
            replace A := hide ((uh A).ups hb); replace K1 := hide ((uh K1).ups hb); replace RS := hide ((uh RS).up hb); have sz8 := hide (hb.size); replace BB := hide (below_y (uh BB) hb); clear hb; go_wp2_with fail
            refine hK.out _ _ (⟨(uh K1).cell 0 rfl, (uh A).cell 0 rfl, (uh A).cell 1 rfl, (uh A).cell 2 rfl, (uh A).cell 3 rfl, (uh A).cell 4 rfl, (uh A).cell 5 rfl, (uh A).cell 6 rfl, (uh A).cell 7 rfl⟩) (fun hHeld2 => ?_)
            clear hK K hHeld; have hHeld := hHeld2; clear hHeld2
            try simp only [Act.put, p1, p2, p3]
            refine tv 17 24 ?_
            refine wpAnyH_ready (rs := [24, 30]) (by kernel_rfl) (by simp) ?_
            refine (AllReadyH.cons rfl (fun K hK => ?_) (AllReadyH.cons rfl (fun K hK => ?_) AllReadyH.nil))
            ·as_aux_lemma =>
              go_simp
              obtain ⟨ws8, hX⟩ : ∃ X, X = (ws7.alloc (.cells ([.int .u8 e.how, .int .u8 e.bits] : List Value).toArray 5)) := ⟨_, rfl⟩
              rw [← hX]
              have K2x : HasObj ws8 ws7.heap.size 5 [.int .u8 e.how, .int .u8 e.bits] := by rw [hX]; exact HasObj.new _ _ _
              have hbn : Below ws7.heap.size ws7 ws8 := by rw [hX]; exact (Below.refl ws7.heap.size ws7).alloc (Nat.le_refl _) _
              clear hX; replace A := hide ((uh A).ups hbn); replace K1 := hide ((uh K1).ups hbn); replace RS := hide ((uh RS).up hbn); have sz9 := hide (hbn.size); replace BB := hide (below_y (uh BB) hbn); clear hbn; have K2 := hide K2x; clear K2x
              refine hK.out _ _ (⟨(uh K1).cell 0 rfl, (uh A).cell 0 rfl, (uh A).cell 1 rfl, (uh A).cell 2 rfl, (uh A).cell 3 rfl, (uh A).cell 4 rfl, (uh A).cell 5 rfl, (uh A).cell 6 rfl, (uh A).cell 7 rfl⟩) (fun hHeld2 => ?_)
              clear hK K hHeld; have hHeld := hHeld2; clear hHeld2
              try simp only [Act.put, p1, p2, p3]
              refine heldMore (fun w' => w'.cell? ⟨ws7.heap.size, 1, none⟩ = some (.int .u8 e.bits)) ((uh K2).cell 1 rfl) hHeld (fun hHeld2 => ?_)
              clear hHeld; have hHeld := hHeld2; clear hHeld2
              refine heldMore (fun w' => w'.cell? ⟨ws7.heap.size, 0, none⟩ = some (.int .u8 e.how)) ((uh K2).cell 0 rfl) hHeld (fun hHeld2 => ?_)
              clear hHeld; have hHeld := hHeld2; clear hHeld2; have K2v := CV2 (ws7.heap.size)
              refine tv 25 32 ?_
              clear K2v
              refine tv 26 33 ?_
              refine wpAnyH_ready (rs := [30]) (by kernel_rfl) (by simp) ?_
              refine (AllReadyH.cons rfl (fun K hK => ?_) AllReadyH.nil)
              go_simp
              refine (varS (e.since + 1) _ (by have := (uh EF).since; omega) (by have := (uh EF).since; omega)).mono ?_
              rintro x ws9 ⟨rfl, hb⟩
              replace A := hide ((uh A).ups hb); replace K1 := hide ((uh K1).ups hb); replace K2 := hide ((uh K2).ups hb); replace RS := hide ((uh RS).up hb); have sz10 := hide (hb.size); replace BB := hide (below_y (uh BB) hb); clear hb; go_wp2_with fail
              refine hK.out _ _ (⟨(uh K2).cell 0 rfl, (uh K2).cell 1 rfl, (uh K1).cell 0 rfl, (uh A).cell 0 rfl, (uh A).cell 1 rfl, (uh A).cell 2 rfl, (uh A).cell 3 rfl, (uh A).cell 4 rfl, (uh A).cell 5 rfl, (uh A).cell 6 rfl, (uh A).cell 7 rfl⟩) (fun hHeld2 => ?_)
              clear hK K hHeld; have hHeld := hHeld2; clear hHeld2
              try simp only [Act.put, p1, p2, p3]
              refine tv 31 38 ?_
              refine wpAnyH_ready (rs := [34]) (by kernel_rfl) (by simp) ?_
              refine (AllReadyH.cons rfl (fun K hK => ?_) AllReadyH.nil)
              go_simp
              refine (shortS e.text _ (by have := (uh EF).text; omega)).mono ?_
              rintro x ws10 ⟨rfl, hb⟩
              replace A := hide ((uh A).ups hb); replace K1 := hide ((uh K1).ups hb); replace K2 := hide ((uh K2).ups hb); replace RS := hide ((uh RS).up hb); have sz11 := hide (hb.size); replace BB := hide (below_y (uh BB) hb); clear hb; go_wp2_with fail
              refine hK.out _ _ (⟨(uh K2).cell 0 rfl, (uh K2).cell 1 rfl, (uh K1).cell 0 rfl, (uh A).cell 0 rfl, (uh A).cell 1 rfl, (uh A).cell 2 rfl, (uh A).cell 3 rfl, (uh A).cell 4 rfl, (uh A).cell 5 rfl, (uh A).cell 6 rfl, (uh A).cell 7 rfl⟩) (fun hHeld2 => ?_)
              clear hK K hHeld; have hHeld := hHeld2; clear hHeld2
              try simp only [Act.put, p1, p2, p3]
              refine tv 35 42 ?_; refine tv 36 2 ?_; refine tv 37 3 ?_
              refine wpAnyH_done (by kernel_rfl) ?_ _
              go_wp2
              go_ret2
              rw [uh ANS]
              exact ⟨rfl, uh BB⟩
            ·as_aux_lemma =>
              go_simp
              refine (varS (e.since + 1) _ (by have := (uh EF).since; omega) (by have := (uh EF).since; omega)).mono ?_
              rintro x ws8 ⟨rfl, hb⟩
              replace A := hide ((uh A).ups hb); replace K1 := hide ((uh K1).ups hb); replace RS := hide ((uh RS).up hb); have sz9 := hide (hb.size); replace BB := hide (below_y (uh BB) hb); clear hb; go_wp2_with fail
              refine hK.out _ _ (⟨(uh K1).cell 0 rfl, (uh A).cell 0 rfl, (uh A).cell 1 rfl, (uh A).cell 2 rfl, (uh A).cell 3 rfl, (uh A).cell 4 rfl, (uh A).cell 5 rfl, (uh A).cell 6 rfl, (uh A).cell 7 rfl⟩) (fun hHeld2 => ?_)
              clear hK K hHeld; have hHeld := hHeld2; clear hHeld2
              try simp only [Act.put, p1, p2, p3]
              refine wpAnyH_ready (rs := [24, 34]) (by kernel_rfl) (by simp) ?_
              refine (AllReadyH.cons rfl (fun K hK => ?_) (AllReadyH.cons rfl (fun K hK => ?_) AllReadyH.nil))
              ·as_aux_lemma =>
                go_simp
                obtain ⟨ws9, hX⟩ : ∃ X, X = (ws8.alloc (.cells ([.int .u8 e.how, .int .u8 e.bits] : List Value).toArray 5)) := ⟨_, rfl⟩
                rw [← hX]
                have K2x : HasObj ws9 ws8.heap.size 5 [.int .u8 e.how, .int .u8 e.bits] := by rw [hX]; exact HasObj.new _ _ _
                have hbn : Below ws8.heap.size ws8 ws9 := by rw [hX]; exact (Below.refl ws8.heap.size ws8).alloc (Nat.le_refl _) _
                clear hX; replace A := hide ((uh A).ups hbn); replace K1 := hide ((uh K1).ups hbn); replace RS := hide ((uh RS).up hbn); have sz10 := hide (hbn.size); replace BB := hide (below_y (uh BB) hbn); clear hbn; have K2 := hide K2x; clear K2x
                refine hK.out _ _ (⟨(uh K1).cell 0 rfl, (uh A).cell 0 rfl, (uh A).cell 1 rfl, (uh A).cell 2 rfl, (uh A).cell 3 rfl, (uh A).cell 4 rfl, (uh A).cell 5 rfl, (uh A).cell 6 rfl, (uh A).cell 7 rfl⟩) (fun hHeld2 => ?_)
                clear hK K hHeld; have hHeld := hHeld2; clear hHeld2
                try simp only [Act.put, p1, p2, p3]
                refine heldMore (fun w' => w'.cell? ⟨ws8.heap.size, 1, none⟩ = some (.int .u8 e.bits)) ((uh K2).cell 1 rfl) hHeld (fun hHeld2 => ?_)
                clear hHeld; have hHeld := hHeld2; clear hHeld2
                refine heldMore (fun w' => w'.cell? ⟨ws8.heap.size, 0, none⟩ = some (.int .u8 e.how)) ((uh K2).cell 0 rfl) hHeld (fun hHeld2 => ?_)
                clear hHeld; have hHeld := hHeld2; clear hHeld2; have K2v := CV2 (ws8.heap.size)
                refine tv 25 32 ?_
                clear K2v
                refine tv 26 33 ?_; refine tv 31 38 ?_
                refine wpAnyH_ready (rs := [34]) (by kernel_rfl) (by simp) ?_
                refine (AllReadyH.cons rfl (fun K hK => ?_) AllReadyH.nil)
                go_simp
                refine (shortS e.text _ (by have := (uh EF).text; omega)).mono ?_
                rintro x ws10 ⟨rfl, hb⟩
                replace A := hide ((uh A).ups hb); replace K1 := hide ((uh K1).ups hb); replace K2 := hide ((uh K2).ups hb); replace RS := hide ((uh RS).up hb); have sz11 := hide (hb.size); replace BB := hide (below_y (uh BB) hb); clear hb; go_wp2_with fail
                refine hK.out _ _ (⟨(uh K2).cell 0 rfl, (uh K2).cell 1 rfl, (uh K1).cell 0 rfl, (uh A).cell 0 rfl, (uh A).cell 1 rfl, (uh A).cell 2 rfl, (uh A).cell 3 rfl, (uh A).cell 4 rfl, (uh A).cell 5 rfl, (uh A).cell 6 rfl, (uh A).cell 7 rfl⟩) (fun hHeld2 => ?_)
                clear hK K hHeld; have hHeld := hHeld2; clear hHeld2
                try simp only [Act.put, p1, p2, p3]
                refine tv 35 42 ?_; refine tv 36 2 ?_; refine tv 37 3 ?_
                refine wpAnyH_done (by kernel_rfl) ?_ _
                go_wp2
                go_ret2
                rw [uh ANS]
                exact ⟨rfl, uh BB⟩
              ·as_aux_lemma =>
                go_simp
                refine (shortS e.text _ (by have := (uh EF).text; omega)).mono ?_
                rintro x ws9 ⟨rfl, hb⟩
                replace A := hide ((uh A).ups hb); replace K1 := hide ((uh K1).ups hb); replace RS := hide ((uh RS).up hb); have sz10 := hide (hb.size); replace BB := hide (below_y (uh BB) hb); clear hb; go_wp2_with fail
                refine hK.out _ _ (⟨(uh K1).cell 0 rfl, (uh A).cell 0 rfl, (uh A).cell 1 rfl, (uh A).cell 2 rfl, (uh A).cell 3 rfl, (uh A).cell 4 rfl, (uh A).cell 5 rfl, (uh A).cell 6 rfl, (uh A).cell 7 rfl⟩) (fun hHeld2 => ?_)
                clear hK K hHeld; have hHeld := hHeld2; clear hHeld2
                try simp only [Act.put, p1, p2, p3]
                refine wpAnyH_ready (rs := [24]) (by kernel_rfl) (by simp) ?_
                refine (AllReadyH.cons rfl (fun K hK => ?_) AllReadyH.nil)
                go_simp
                obtain ⟨ws10, hX⟩ : ∃ X, X = (ws9.alloc (.cells ([.int .u8 e.how, .int .u8 e.bits] : List Value).toArray 5)) := ⟨_, rfl⟩
                rw [← hX]
                have K2x : HasObj ws10 ws9.heap.size 5 [.int .u8 e.how, .int .u8 e.bits] := by rw [hX]; exact HasObj.new _ _ _
                have hbn : Below ws9.heap.size ws9 ws10 := by rw [hX]; exact (Below.refl ws9.heap.size ws9).alloc (Nat.le_refl _) _
                clear hX; replace A := hide ((uh A).ups hbn); replace K1 := hide ((uh K1).ups hbn); replace RS := hide ((uh RS).up hbn); have sz11 := hide (hbn.size); replace BB := hide (below_y (uh BB) hbn); clear hbn; have K2 := hide K2x; clear K2x
                refine hK.out _ _ (⟨(uh K1).cell 0 rfl, (uh A).cell 0 rfl, (uh A).cell 1 rfl, (uh A).cell 2 rfl, (uh A).cell 3 rfl, (uh A).cell 4 rfl, (uh A).cell 5 rfl, (uh A).cell 6 rfl, (uh A).cell 7 rfl⟩) (fun hHeld2 => ?_)
                clear hK K hHeld; have hHeld := hHeld2; clear hHeld2
                try simp only [Act.put, p1, p2, p3]
                refine heldMore (fun w' => w'.cell? ⟨ws9.heap.size, 1, none⟩ = some (.int .u8 e.bits)) ((uh K2).cell 1 rfl) hHeld (fun hHeld2 => ?_)
                clear hHeld; have hHeld := hHeld2; clear hHeld2
                refine heldMore (fun w' => w'.cell? ⟨ws9.heap.size, 0, none⟩ = some (.int .u8 e.how)) ((uh K2).cell 0 rfl) hHeld (fun hHeld2 => ?_)
                clear hHeld; have hHeld := hHeld2; clear hHeld2; have K2v := CV2 (ws9.heap.size)
                refine tv 25 32 ?_
                clear K2v
                refine tv 26 33 ?_; refine tv 31 38 ?_; refine tv 35 42 ?_; refine tv 36 2 ?_; refine tv 37 3 ?_
                refine wpAnyH_done (by kernel_rfl) ?_ _
                go_wp2
                go_ret2
                rw [uh ANS]
                exact ⟨rfl, uh BB⟩
          ·as_aux_lemma =>
            go_simp
            obtain ⟨ws7, hX⟩ : ∃ X, X = (ws6.alloc (.cells ([.int .u8 e.how, .int .u8 e.bits] : List Value).toArray 5)) := ⟨_, rfl⟩
            rw [← hX]
            have K2x : HasObj ws7 ws6.heap.size 5 [.int .u8 e.how, .int .u8 e.bits] := by rw [hX]; exact HasObj.new _ _ _
            have hbn : Below ws6.heap.size ws6 ws7 := by rw [hX]; exact (Below.refl ws6.heap.size ws6).alloc (Nat.le_refl _) _
            clear hX; replace A := hide ((uh A).ups hbn); replace K1 := hide ((uh K1).ups hbn); replace RS := hide ((uh RS).up hbn); have sz8 := hide (hbn.size); replace BB := hide (below_y (uh BB) hbn); clear hbn; have K2 := hide K2x; clear K2x
            refine hK.out _ _ (⟨(uh K1).cell 0 rfl, (uh A).cell 0 rfl, (uh A).cell 1 rfl, (uh A).cell 2 rfl, (uh A).cell 3 rfl, (uh A).cell 4 rfl, (uh A).cell 5 rfl, (uh A).cell 6 rfl, (uh A).cell 7 rfl⟩) (fun hHeld2 => ?_)
            clear hK K hHeld; have hHeld := hHeld2; clear hHeld2
            try simp only [Act.put, p1, p2, p3]
            refine heldMore (fun w' => w'.cell? ⟨ws6.heap.size, 1, none⟩ = some (.int .u8 e.bits)) ((uh K2).cell 1 rfl) hHeld (fun hHeld2 => ?_)
            clear hHeld; have hHeld := hHeld2; clear hHeld2
            refine heldMore (fun w' => w'.cell? ⟨ws6.heap.size, 0, none⟩ = some (.int .u8 e.how)) ((uh K2).cell 0 rfl) hHeld (fun hHeld2 => ?_)
            clear hHeld; have hHeld := hHeld2; clear hHeld2; have K2v := CV2 (ws6.heap.size)
            refine tv 25 32 ?_
            clear K2v
            refine wpAnyH_ready (rs := [16]) (by kernel_rfl) (by simp) ?_
            refine (AllReadyH.cons rfl (fun K hK => ?_) AllReadyH.nil)
            go_simp
            refine (shortS (stB e.set) _ (by have := st_size e.set; omega)).mono ?_
            rintro x ws8 ⟨rfl, hb⟩
            replace A := hide ((uh A).ups hb); replace K1 := hide ((uh K1).ups hb); replace K2 := hide ((uh K2).ups hb); replace RS := hide ((uh RS).up hb); have sz9 := hide (hb.size); replace BB := hide (below_y (uh BB) hb); clear hb; go_wp2_with fail
            refine hK.out _ _ (⟨(uh K2).cell 0 rfl, (uh K2).cell 1 rfl, (uh K1).cell 0 rfl, (uh A).cell 0 rfl, (uh A).cell 1 rfl, (uh A).cell 2 rfl, (uh A).cell 3 rfl, (uh A).cell 4 rfl, (uh A).cell 5 rfl, (uh A).cell 6 rfl, (uh A).cell 7 rfl⟩) (fun hHeld2 => ?_)
            clear hK K hHeld; have hHeld := hHeld2; clear hHeld2
            try simp only [Act.put, p1, p2, p3]
            refine tv 17 24 ?_; refine tv 26 33 ?_
            refine wpAnyH_ready (rs := [30]) (by kernel_rfl) (by simp) ?_
            refine (AllReadyH.cons rfl (fun K hK => ?_) AllReadyH.nil)
            go_simp
            refine (varS (e.since + 1) _ (by have := (uh EF).since; omega) (by have := (uh EF).since; omega)).mono ?_
            rintro x ws9 ⟨rfl, hb⟩
            replace A := hide ((uh A).ups hb); replace K1 := hide ((uh K1).ups hb); replace K2 := hide ((uh K2).ups hb); replace RS := hide ((uh RS).up hb); have sz10 := hide (hb.size); replace BB := hide (below_y (uh BB) hb); clear hb; go_wp2_with fail
            refine hK.out _ _ (⟨(uh K2).cell 0 rfl, (uh K2).cell 1 rfl, (uh K1).cell 0 rfl, (uh A).cell 0 rfl, (uh A).cell 1 rfl, (uh A).cell 2 rfl, (uh A).cell 3 rfl, (uh A).cell 4 rfl, (uh A).cell 5 rfl, (uh A).cell 6 rfl, (uh A).cell 7 rfl⟩) (fun hHeld2 => ?_)
            clear hK K hHeld; have hHeld := hHeld2; clear hHeld2
            try simp only [Act.put, p1, p2, p3]
            refine tv 31 38 ?_
            refine wpAnyH_ready (rs := [34]) (by kernel_rfl) (by simp) ?_
            refine (AllReadyH.cons rfl (fun K hK => ?_) AllReadyH.nil)
            go_simp
            refine (shortS e.text _ (by have := (uh EF).text; omega)).mono ?_
            rintro x ws10 ⟨rfl, hb⟩
            replace A := hide ((uh A).ups hb); replace K1 := hide ((uh K1).ups hb); replace K2 := hide ((uh K2).ups hb); replace RS := hide ((uh RS).up hb); have sz11 := hide (hb.size); replace BB := hide (below_y (uh BB) hb); clear hb; go_wp2_with fail
            refine hK.out _ _ (⟨(uh K2).cell 0 rfl, (uh K2).cell 1 rfl, (uh K1).cell 0 rfl, (uh A).cell 0 rfl, (uh A).cell 1 rfl, (uh A).cell 2 rfl, (uh A).cell 3 rfl, (uh A).cell 4 rfl, (uh A).cell 5 rfl, (uh A).cell 6 rfl, (uh A).cell 7 rfl⟩) (fun hHeld2 => ?_)
            clear hK K hHeld; have hHeld := hHeld2; clear hHeld2
            try simp only [Act.put, p1, p2, p3]
            refine tv 35 42 ?_; refine tv 36 2 ?_; refine tv 37 3 ?_
            refine wpAnyH_done (by kernel_rfl) ?_ _
            go_wp2
            go_ret2
            rw [uh ANS]
            exact ⟨rfl, uh BB⟩
        ·as_aux_lemma =>
          go_simp
          obtain ⟨ws6, hX⟩ : ∃ X, X = (ws5.alloc (.cells ([.int .u8 e.how, .int .u8 e.bits] : List Value).toArray 5)) := ⟨_, rfl⟩
          rw [← hX]
          have K2x : HasObj ws6 ws5.heap.size 5 [.int .u8 e.how, .int .u8 e.bits] := by rw [hX]; exact HasObj.new _ _ _
          have hbn : Below ws5.heap.size ws5 ws6 := by rw [hX]; exact (Below.refl ws5.heap.size ws5).alloc (Nat.le_refl _) _
          clear hX; replace A := hide ((uh A).ups hbn); replace K1 := hide ((uh K1).ups hbn); replace RS := hide ((uh RS).up hbn); have sz7 := hide (hbn.size); replace BB := hide (below_y (uh BB) hbn); clear hbn; have K2 := hide K2x; clear K2x
          refine hK.out _ _ (⟨(uh K1).cell 0 rfl, (uh A).cell 0 rfl, (uh A).cell 1 rfl, (uh A).cell 2 rfl, (uh A).cell 3 rfl, (uh A).cell 4 rfl, (uh A).cell 5 rfl, (uh A).cell 6 rfl, (uh A).cell 7 rfl⟩) (fun hHeld2 => ?_)
          clear hK K hHeld; have hHeld := hHeld2; clear hHeld2
          try simp only [Act.put, p1, p2, p3]
          refine heldMore (fun w' => w'.cell? ⟨ws5.heap.size, 1, none⟩ = some (.int .u8 e.bits)) ((uh K2).cell 1 rfl) hHeld (fun hHeld2 => ?_)
          clear hHeld; have hHeld := hHeld2; clear hHeld2
          refine heldMore (fun w' => w'.cell? ⟨ws5.heap.size, 0, none⟩ = some (.int .u8 e.how)) ((uh K2).cell 0 rfl) hHeld (fun hHeld2 => ?_)
          clear hHeld; have hHeld := hHeld2; clear hHeld2; have K2v := CV2 (ws5.heap.size)
          refine tv 25 32 ?_
          clear K2v
          refine wpAnyH_ready (rs := [15]) (by kernel_rfl) (by simp) ?_
          refine (AllReadyH.cons rfl (fun K hK => ?_) AllReadyH.nil)
          go_simp
          refine (setS e.set _ _ _ (uh SM).set (uh RS)).mono ?_
          rintro x ws7 ⟨rfl, hb⟩
          replace A := hide ((uh A).ups hb); replace K1 := hide ((uh K1).ups hb); replace K2 := hide ((uh K2).ups hb); replace RS := hide ((uh RS).up hb); have sz8 := hide (hb.size); replace BB := hide (below_y (uh BB) hb); clear hb; go_wp2_with fail
          refine hK.out _ _ (⟨(uh K2).cell 0 rfl, (uh K2).cell 1 rfl, (uh K1).cell 0 rfl, (uh A).cell 0 rfl, (uh A).cell 1 rfl, (uh A).cell 2 rfl, (uh A).cell 3 rfl, (uh A).cell 4 rfl, (uh A).cell 5 rfl, (uh A).cell 6 rfl, (uh A).cell 7 rfl⟩) (fun hHeld2 => ?_)
          clear hK K hHeld; have hHeld := hHeld2; clear hHeld2
          try simp only [Act.put, p1, p2, p3]
          refine wpAnyH_ready (rs := [16]) (by kernel_rfl) (by simp) ?_
          refine (AllReadyH.cons rfl (fun K hK => ?_) AllReadyH.nil)
          go_simp
          refine (shortS (stB e.set) _ (by have := st_size e.set; omega)).mono ?_
          rintro x ws8 ⟨rfl, hb⟩
          replace A := hide ((uh A).ups hb); replace K1 := hide ((uh K1).ups hb); replace K2 := hide ((uh K2).ups hb); replace RS := hide ((uh RS).up hb); have sz9 := hide (hb.size); replace BB := hide (below_y (uh BB) hb); clear hb; go_wp2_with fail
          refine hK.out _ _ (⟨(uh K2).cell 0 rfl, (uh K2).cell 1 rfl, (uh K1).cell 0 rfl, (uh A).cell 0 rfl, (uh A).cell 1 rfl, (uh A).cell 2 rfl, (uh A).cell 3 rfl, (uh A).cell 4 rfl, (uh A).cell 5 rfl, (uh A).cell 6 rfl, (uh A).cell 7 rfl⟩) (fun hHeld2 => ?_)
          clear hK K hHeld; have hHeld := hHeld2; clear hHeld2
          try simp only [Act.put, p1, p2, p3]
          refine tv 17 24 ?_; refine tv 26 33 ?_
          refine wpAnyH_ready (rs := [30]) (by kernel_rfl) (by simp) ?_
          refine (AllReadyH.cons rfl (fun K hK => ?_) AllReadyH.nil)
          go_simp
          refine (varS (e.since + 1) _ (by have := (uh EF).since; omega) (by have := (uh EF).since; omega)).mono ?_
          rintro x ws9 ⟨rfl, hb⟩
          replace A := hide ((uh A).ups hb); replace K1 := hide ((uh K1).ups hb); replace K2 := hide ((uh K2).ups hb); replace RS := hide ((uh RS).up hb); have sz10 := hide (hb.size); replace BB := hide (below_y (uh BB) hb); clear hb; go_wp2_with fail
          refine hK.out _ _ (⟨(uh K2).cell 0 rfl, (uh K2).cell 1 rfl, (uh K1).cell 0 rfl, (uh A).cell 0 rfl, (uh A).cell 1 rfl, (uh A).cell 2 rfl, (uh A).cell 3 rfl, (uh A).cell 4 rfl, (uh A).cell 5 rfl, (uh A).cell 6 rfl, (uh A).cell 7 rfl⟩) (fun hHeld2 => ?_)
          clear hK K hHeld; have hHeld := hHeld2; clear hHeld2
          try simp only [Act.put, p1, p2, p3]
          refine tv 31 38 ?_
          refine wpAnyH_ready (rs := [34]) (by kernel_rfl) (by simp) ?_
          refine (AllReadyH.cons rfl (fun K hK => ?_) AllReadyH.nil)
          go_simp
          refine (shortS e.text _ (by have := (uh EF).text; omega)).mono ?_
          rintro x ws10 ⟨rfl, hb⟩
          replace A := hide ((uh A).ups hb); replace K1 := hide ((uh K1).ups hb); replace K2 := hide ((uh K2).ups hb); replace RS := hide ((uh RS).up hb); have sz11 := hide (hb.size); replace BB := hide (below_y (uh BB) hb); clear hb; go_wp2_with fail
          refine hK.out _ _ (⟨(uh K2).cell 0 rfl, (uh K2).cell 1 rfl, (uh K1).cell 0 rfl, (uh A).cell 0 rfl, (uh A).cell 1 rfl, (uh A).cell 2 rfl, (uh A).cell 3 rfl, (uh A).cell 4 rfl, (uh A).cell 5 rfl, (uh A).cell 6 rfl, (uh A).cell 7 rfl⟩) (fun hHeld2 => ?_)
          clear hK K hHeld; have hHeld := hHeld2; clear hHeld2
          try simp only [Act.put, p1, p2, p3]
          refine tv 35 42 ?_; refine tv 36 2 ?_; refine tv 37 3 ?_
          refine wpAnyH_done (by kernel_rfl) ?_ _
          go_wp2
          go_ret2
          rw [uh ANS]
          exact ⟨rfl, uh BB⟩
      ·as_aux_lemma =>
        go_simp
        obtain ⟨ws5, hX⟩ : ∃ X, X = (ws4.alloc (.cells ([.int .u8 e.how, .int .u8 e.bits] : List Value).toArray 5)) := ⟨_, rfl⟩
        rw [← hX]
        have K2x : HasObj ws5 ws4.heap.size 5 [.int .u8 e.how, .int .u8 e.bits] := by rw [hX]; exact HasObj.new _ _ _
        have hbn : Below ws4.heap.size ws4 ws5 := by rw [hX]; exact (Below.refl ws4.heap.size ws4).alloc (Nat.le_refl _) _
        clear hX; replace A := hide ((uh A).ups hbn); replace K1 := hide ((uh K1).ups hbn); replace RS := hide ((uh RS).up hbn); have sz6 := hide (hbn.size); replace BB := hide (below_y (uh BB) hbn); clear hbn; have K2 := hide K2x; clear K2x
        refine hK.out _ _ (⟨(uh K1).cell 0 rfl, (uh A).cell 0 rfl, (uh A).cell 1 rfl, (uh A).cell 2 rfl, (uh A).cell 3 rfl, (uh A).cell 4 rfl, (uh A).cell 5 rfl, (uh A).cell 6 rfl, (uh A).cell 7 rfl⟩) (fun hHeld2 => ?_)
        clear hK K hHeld; have hHeld := hHeld2; clear hHeld2
        try simp only [Act.put, p1, p2, p3]
        refine heldMore (fun w' => w'.cell? ⟨ws4.heap.size, 1, none⟩ = some (.int .u8 e.bits)) ((uh K2).cell 1 rfl) hHeld (fun hHeld2 => ?_)
        clear hHeld; have hHeld := hHeld2; clear hHeld2
        refine heldMore (fun w' => w'.cell? ⟨ws4.heap.size, 0, none⟩ = some (.int .u8 e.how)) ((uh K2).cell 0 rfl) hHeld (fun hHeld2 => ?_)
        clear hHeld; have hHeld := hHeld2; clear hHeld2; have K2v := CV2 (ws4.heap.size)
        refine tv 25 32 ?_
        clear K2v
        refine wpAnyH_ready (rs := [11]) (by kernel_rfl) (by simp) ?_
        refine (AllReadyH.cons rfl (fun K hK => ?_) AllReadyH.nil)
        go_simp
        refine (shortS e.dst _ (by have := (uh EF).dst; omega)).mono ?_
        rintro x ws6 ⟨rfl, hb⟩
        replace A := hide ((uh A).ups hb); replace K1 := hide ((uh K1).ups hb); replace K2 := hide ((uh K2).ups hb); replace RS := hide ((uh RS).up hb); have sz7 := hide (hb.size); replace BB := hide (below_y (uh BB) hb); clear hb; go_wp2_with fail
        refine hK.out _ _ (⟨(uh K2).cell 0 rfl, (uh K2).cell 1 rfl, (uh K1).cell 0 rfl, (uh A).cell 0 rfl, (uh A).cell 1 rfl, (uh A).cell 2 rfl, (uh A).cell 3 rfl, (uh A).cell 4 rfl, (uh A).cell 5 rfl, (uh A).cell 6 rfl, (uh A).cell 7 rfl⟩) (fun hHeld2 => ?_)
        clear hK K hHeld; have hHeld := hHeld2; clear hHeld2
        try simp only [Act.put, p1, p2, p3]
        refine tv 12 19 ?_
        refine wpAnyH_ready (rs := [15]) (by kernel_rfl) (by simp) ?_
        refine (AllReadyH.cons rfl (fun K hK => ?_) AllReadyH.nil)
        go_simp
        refine (setS e.set _ _ _ (uh SM).set (uh RS)).mono ?_
        rintro x ws7 ⟨rfl, hb⟩
        replace A := hide ((uh A).ups hb); replace K1 := hide ((uh K1).ups hb); replace K2 := hide ((uh K2).ups hb); replace RS := hide ((uh RS).up hb); have sz8 := hide (hb.size); replace BB := hide (below_y (uh BB) hb); clear hb; go_wp2_with fail
        refine hK.out _ _ (⟨(uh K2).cell 0 rfl, (uh K2).cell 1 rfl, (uh K1).cell 0 rfl, (uh A).cell 0 rfl, (uh A).cell 1 rfl, (uh A).cell 2 rfl, (uh A).cell 3 rfl, (uh A).cell 4 rfl, (uh A).cell 5 rfl, (uh A).cell 6 rfl, (uh A).cell 7 rfl⟩) (fun hHeld2 => ?_)
        clear hK K hHeld; have hHeld := hHeld2; clear hHeld2
        try simp only [Act.put, p1, p2, p3]
        refine wpAnyH_ready (rs := [16]) (by kernel_rfl) (by simp) ?_
        refine (AllReadyH.cons rfl (fun K hK => ?_) AllReadyH.nil)
        go_simp
        refine (shortS (stB e.set) _ (by have := st_size e.set; omega)).mono ?_
        rintro x ws8 ⟨rfl, hb⟩
        replace A := hide ((uh A).ups hb); replace K1 := hide ((uh K1).ups hb); replace K2 := hide ((uh K2).ups hb); replace RS := hide ((uh RS).up hb); have sz9 := hide (hb.size); replace BB := hide (below_y (uh BB) hb); clear hb; go_wp2_with fail
        refine hK.out _ _ (⟨(uh K2).cell 0 rfl, (uh K2).cell 1 rfl, (uh K1).cell 0 rfl, (uh A).cell 0 rfl, (uh A).cell 1 rfl, (uh A).cell 2 rfl, (uh A).cell 3 rfl, (uh A).cell 4 rfl, (uh A).cell 5 rfl, (uh A).cell 6 rfl, (uh A).cell 7 rfl⟩) (fun hHeld2 => ?_)
        clear hK K hHeld; have hHeld := hHeld2; clear hHeld2
        try simp only [Act.put, p1, p2, p3]
        refine tv 17 24 ?_; refine tv 26 33 ?_
        refine wpAnyH_ready (rs := [30]) (by kernel_rfl) (by simp) ?_
        refine (AllReadyH.cons rfl (fun K hK => ?_) AllReadyH.nil)
        go_simp
        refine (varS (e.since + 1) _ (by have := (uh EF).since; omega) (by have := (uh EF).since; omega)).mono ?_
        rintro x ws9 ⟨rfl, hb⟩
        replace A := hide ((uh A).ups hb); replace K1 := hide ((uh K1).ups hb); replace K2 := hide ((uh K2).ups hb); replace RS := hide ((uh RS).up hb); have sz10 := hide (hb.size); replace BB := hide (below_y (uh BB) hb); clear hb; go_wp2_with fail
        refine hK.out _ _ (⟨(uh K2).cell 0 rfl, (uh K2).cell 1 rfl, (uh K1).cell 0 rfl, (uh A).cell 0 rfl, (uh A).cell 1 rfl, (uh A).cell 2 rfl, (uh A).cell 3 rfl, (uh A).cell 4 rfl, (uh A).cell 5 rfl, (uh A).cell 6 rfl, (uh A).cell 7 rfl⟩) (fun hHeld2 => ?_)
        clear hK K hHeld; have hHeld := hHeld2; clear hHeld2
        try simp only [Act.put, p1, p2, p3]
        refine tv 31 38 ?_
        refine wpAnyH_ready (rs := [34]) (by kernel_rfl) (by simp) ?_
        refine (AllReadyH.cons rfl (fun K hK => ?_) AllReadyH.nil)
        go_simp
        refine (shortS e.text _ (by have := (uh EF).text; omega)).mono ?_
        rintro x ws10 ⟨rfl, hb⟩
        replace A := hide ((uh A).ups hb); replace K1 := hide ((uh K1).ups hb); replace K2 := hide ((uh K2).ups hb); replace RS := hide ((uh RS).up hb); have sz11 := hide (hb.size); replace BB := hide (below_y (uh BB) hb); clear hb; go_wp2_with fail
        refine hK.out _ _ (⟨(uh K2).cell 0 rfl, (uh K2).cell 1 rfl, (uh K1).cell 0 rfl, (uh A).cell 0 rfl, (uh A).cell 1 rfl, (uh A).cell 2 rfl, (uh A).cell 3 rfl, (uh A).cell 4 rfl, (uh A).cell 5 rfl, (uh A).cell 6 rfl, (uh A).cell 7 rfl⟩) (fun hHeld2 => ?_)
        clear hK K hHeld; have hHeld := hHeld2; clear hHeld2
        try simp only [Act.put, p1, p2, p3]
        refine tv 35 42 ?_; refine tv 36 2 ?_; refine tv 37 3 ?_
        refine wpAnyH_done (by kernel_rfl) ?_ _
        go_wp2
        go_ret2
        rw [uh ANS]
        exact ⟨rfl, uh BB⟩
    ·as_aux_lemma =>
      go_simp
      obtain ⟨ws4, hX⟩ : ∃ X, X = (ws3.alloc (.cells ([.int .u8 e.how, .int .u8 e.bits] : List Value).toArray 5)) := ⟨_, rfl⟩
      rw [← hX]
      have K2x : HasObj ws4 ws3.heap.size 5 [.int .u8 e.how, .int .u8 e.bits] := by rw [hX]; exact HasObj.new _ _ _
      have hbn : Below ws3.heap.size ws3 ws4 := by rw [hX]; exact (Below.refl ws3.heap.size ws3).alloc (Nat.le_refl _) _
      clear hX; replace A := hide ((uh A).ups hbn); replace K1 := hide ((uh K1).ups hbn); replace RS := hide ((uh RS).up hbn); have sz5 := hide (hbn.size); replace BB := hide (below_y (uh BB) hbn); clear hbn; have K2 := hide K2x; clear K2x
      refine hK.out _ _ (⟨(uh K1).cell 0 rfl, (uh A).cell 0 rfl, (uh A).cell 1 rfl, (uh A).cell 2 rfl, (uh A).cell 3 rfl, (uh A).cell 4 rfl, (uh A).cell 5 rfl, (uh A).cell 6 rfl, (uh A).cell 7 rfl⟩) (fun hHeld2 => ?_)
      clear hK K hHeld; have hHeld := hHeld2; clear hHeld2
      try simp only [Act.put, p1, p2, p3]
      refine heldMore (fun w' => w'.cell? ⟨ws3.heap.size, 1, none⟩ = some (.int .u8 e.bits)) ((uh K2).cell 1 rfl) hHeld (fun hHeld2 => ?_)
      clear hHeld; have hHeld := hHeld2; clear hHeld2
      refine heldMore (fun w' => w'.cell? ⟨ws3.heap.size, 0, none⟩ = some (.int .u8 e.how)) ((uh K2).cell 0 rfl) hHeld (fun hHeld2 => ?_)
      clear hHeld; have hHeld := hHeld2; clear hHeld2; have K2v := CV2 (ws3.heap.size)
      refine tv 25 32 ?_
      clear K2v
      refine wpAnyH_ready (rs := [7]) (by kernel_rfl) (by simp) ?_
      refine (AllReadyH.cons rfl (fun K hK => ?_) AllReadyH.nil)
      go_simp
      refine (shortS e.box _ (by have := (uh EF).box; omega)).mono ?_
      rintro x ws5 ⟨rfl, hb⟩
      replace A := hide ((uh A).ups hb); replace K1 := hide ((uh K1).ups hb); replace K2 := hide ((uh K2).ups hb); replace RS := hide ((uh RS).up hb); have sz6 := hide (hb.size); replace BB := hide (below_y (uh BB) hb); clear hb; go_wp2_with fail
      refine hK.out _ _ (⟨(uh K2).cell 0 rfl, (uh K2).cell 1 rfl, (uh K1).cell 0 rfl, (uh A).cell 0 rfl, (uh A).cell 1 rfl, (uh A).cell 2 rfl, (uh A).cell 3 rfl, (uh A).cell 4 rfl, (uh A).cell 5 rfl, (uh A).cell 6 rfl, (uh A).cell 7 rfl⟩) (fun hHeld2 => ?_)
      clear hK K hHeld; have hHeld := hHeld2; clear hHeld2
      try simp only [Act.put, p1, p2, p3]
      refine tv 8 15 ?_
      refine wpAnyH_ready (rs := [11]) (by kernel_rfl) (by simp) ?_
      refine (AllReadyH.cons rfl (fun K hK => ?_) AllReadyH.nil)
      go_simp
      refine (shortS e.dst _ (by have := (uh EF).dst; omega)).mono ?_
      rintro x ws6 ⟨rfl, hb⟩
      replace A := hide ((uh A).ups hb); replace K1 := hide ((uh K1).ups hb); replace K2 := hide ((uh K2).ups hb); replace RS := hide ((uh RS).up hb); have sz7 := hide (hb.size); replace BB := hide (below_y (uh BB) hb); clear hb; go_wp2_with fail
      refine hK.out _ _ (⟨(uh K2).cell 0 rfl, (uh K2).cell 1 rfl, (uh K1).cell 0 rfl, (uh A).cell 0 rfl, (uh A).cell 1 rfl, (uh A).cell 2 rfl, (uh A).cell 3 rfl, (uh A).cell 4 rfl, (uh A).cell 5 rfl, (uh A).cell 6 rfl, (uh A).cell 7 rfl⟩) (fun hHeld2 => ?_)
      clear hK K hHeld; have hHeld := hHeld2; clear hHeld2
      try simp only [Act.put, p1, p2, p3]
      refine tv 12 19 ?_
      refine wpAnyH_ready (rs := [15]) (by kernel_rfl) (by simp) ?_
      refine (AllReadyH.cons rfl (fun K hK => ?_) AllReadyH.nil)
      go_simp
      refine (setS e.set _ _ _ (uh SM).set (uh RS)).mono ?_
      rintro x ws7 ⟨rfl, hb⟩
      replace A := hide ((uh A).ups hb); replace K1 := hide ((uh K1).ups hb); replace K2 := hide ((uh K2).ups hb); replace RS := hide ((uh RS).up hb); have sz8 := hide (hb.size); replace BB := hide (below_y (uh BB) hb); clear hb; go_wp2_with fail
      refine hK.out _ _ (⟨(uh K2).cell 0 rfl, (uh K2).cell 1 rfl, (uh K1).cell 0 rfl, (uh A).cell 0 rfl, (uh A).cell 1 rfl, (uh A).cell 2 rfl, (uh A).cell 3 rfl, (uh A).cell 4 rfl, (uh A).cell 5 rfl, (uh A).cell 6 rfl, (uh A).cell 7 rfl⟩) (fun hHeld2 => ?_)
      clear hK K hHeld; have hHeld := hHeld2; clear hHeld2
      try simp only [Act.put, p1, p2, p3]
      refine wpAnyH_ready (rs := [16]) (by kernel_rfl) (by simp) ?_
      refine (AllReadyH.cons rfl (fun K hK => ?_) AllReadyH.nil)
      go_simp
      refine (shortS (stB e.set) _ (by have := st_size e.set; omega)).mono ?_
      rintro x ws8 ⟨rfl, hb⟩
      replace A := hide ((uh A).ups hb); replace K1 := hide ((uh K1).ups hb); replace K2 := hide ((uh K2).ups hb); replace RS := hide ((uh RS).up hb); have sz9 := hide (hb.size); replace BB := hide (below_y (uh BB) hb); clear hb; go_wp2_with fail
      refine hK.out _ _ (⟨(uh K2).cell 0 rfl, (uh K2).cell 1 rfl, (uh K1).cell 0 rfl, (uh A).cell 0 rfl, (uh A).cell 1 rfl, (uh A).cell 2 rfl, (uh A).cell 3 rfl, (uh A).cell 4 rfl, (uh A).cell 5 rfl, (uh A).cell 6 rfl, (uh A).cell 7 rfl⟩) (fun hHeld2 => ?_)
      clear hK K hHeld; have hHeld := hHeld2; clear hHeld2
      try simp only [Act.put, p1, p2, p3]
      refine tv 17 24 ?_; refine tv 26 33 ?_
      refine wpAnyH_ready (rs := [30]) (by kernel_rfl) (by simp) ?_
      refine (AllReadyH.cons rfl (fun K hK => ?_) AllReadyH.nil)
      go_simp
      refine (varS (e.since + 1) _ (by have := (uh EF).since; omega) (by have := (uh EF).since; omega)).mono ?_
      rintro x ws9 ⟨rfl, hb⟩
      replace A := hide ((uh A).ups hb); replace K1 := hide ((uh K1).ups hb); replace K2 := hide ((uh K2).ups hb); replace RS := hide ((uh RS).up hb); have sz10 := hide (hb.size); replace BB := hide (below_y (uh BB) hb); clear hb; go_wp2_with fail
      refine hK.out _ _ (⟨(uh K2).cell 0 rfl, (uh K2).cell 1 rfl, (uh K1).cell 0 rfl, (uh A).cell 0 rfl, (uh A).cell 1 rfl, (uh A).cell 2 rfl, (uh A).cell 3 rfl, (uh A).cell 4 rfl, (uh A).cell 5 rfl, (uh A).cell 6 rfl, (uh A).cell 7 rfl⟩) (fun hHeld2 => ?_)
      clear hK K hHeld; have hHeld := hHeld2; clear hHeld2
      try simp only [Act.put, p1, p2, p3]
      refine tv 31 38 ?_
      refine wpAnyH_ready (rs := [34]) (by kernel_rfl) (by simp) ?_
      refine (AllReadyH.cons rfl (fun K hK => ?_) AllReadyH.nil)
      go_simp
      refine (shortS e.text _ (by have := (uh EF).text; omega)).mono ?_
      rintro x ws10 ⟨rfl, hb⟩
      replace A := hide ((uh A).ups hb); replace K1 := hide ((uh K1).ups hb); replace K2 := hide ((uh K2).ups hb); replace RS := hide ((uh RS).up hb); have sz11 := hide (hb.size); replace BB := hide (below_y (uh BB) hb); clear hb; go_wp2_with fail
      refine hK.out _ _ (⟨(uh K2).cell 0 rfl, (uh K2).cell 1 rfl, (uh K1).cell 0 rfl, (uh A).cell 0 rfl, (uh A).cell 1 rfl, (uh A).cell 2 rfl, (uh A).cell 3 rfl, (uh A).cell 4 rfl, (uh A).cell 5 rfl, (uh A).cell 6 rfl, (uh A).cell 7 rfl⟩) (fun hHeld2 => ?_)
      clear hK K hHeld; have hHeld := hHeld2; clear hHeld2
      try simp only [Act.put, p1, p2, p3]
      refine tv 35 42 ?_; refine tv 36 2 ?_; refine tv 37 3 ?_
      refine wpAnyH_done (by kernel_rfl) ?_ _
      go_wp2
      go_ret2
      rw [uh ANS]
      exact ⟨rfl, uh BB⟩
  ·as_aux_lemma =>
    go_simp
    refine (shortS e.box _ (by have := (uh EF).box; omega)).mono ?_
    rintro x ws3 ⟨rfl, hb⟩
    replace A := hide ((uh A).ups hb); replace RS := hide ((uh RS).up hb); have sz4 := hide (hb.size); replace BB := hide (below_y (uh BB) hb); clear hb; go_wp2_with fail
    refine hK.out _ _ (⟨(uh A).cell 0 rfl, (uh A).cell 1 rfl, (uh A).cell 2 rfl, (uh A).cell 3 rfl, (uh A).cell 4 rfl, (uh A).cell 5 rfl, (uh A).cell 6 rfl, (uh A).cell 7 rfl⟩) (fun hHeld2 => ?_)
    clear hK K hHeld; have hHeld := hHeld2; clear hHeld2
    try simp only [Act.put, p1, p2, p3]
    refine wpAnyH_ready (rs := [3, 11, 24]) (by kernel_rfl) (by simp) ?_
    refine (AllReadyH.cons rfl (fun K hK => ?_) (AllReadyH.cons rfl (fun K hK => ?_) (AllReadyH.cons rfl (fun K hK => ?_) AllReadyH.nil)))
    ·as_aux_lemma =>
      go_simp
      obtain ⟨ws4, hX⟩ : ∃ X, X = (ws3.alloc (.cells ([.int .u8 e.kind] : List Value).toArray 5)) := ⟨_, rfl⟩
      rw [← hX]
      have K1x : HasObj ws4 ws3.heap.size 5 [.int .u8 e.kind] := by rw [hX]; exact HasObj.new _ _ _
      have hbn : Below ws3.heap.size ws3 ws4 := by rw [hX]; exact (Below.refl ws3.heap.size ws3).alloc (Nat.le_refl _) _
      clear hX; replace A := hide ((uh A).ups hbn); replace RS := hide ((uh RS).up hbn); have sz5 := hide (hbn.size); replace BB := hide (below_y (uh BB) hbn); clear hbn; have K1 := hide K1x; clear K1x
      refine hK.out _ _ (⟨(uh A).cell 0 rfl, (uh A).cell 1 rfl, (uh A).cell 2 rfl, (uh A).cell 3 rfl, (uh A).cell 4 rfl, (uh A).cell 5 rfl, (uh A).cell 6 rfl, (uh A).cell 7 rfl⟩) (fun hHeld2 => ?_)
      clear hK K hHeld; have hHeld := hHeld2; clear hHeld2
      try simp only [Act.put, p1, p2, p3]
      refine heldMore (fun w' => w'.cell? ⟨ws3.heap.size, 0, none⟩ = some (.int .u8 e.kind)) ((uh K1).cell 0 rfl) hHeld (fun hHeld2 => ?_)
      clear hHeld; have hHeld := hHeld2; clear hHeld2; have K1v := CV1 (ws3.heap.size)
      refine tv 4 11 ?_
      clear K1v
      refine tv 8 15 ?_
      refine wpAnyH_ready (rs := [11, 24]) (by kernel_rfl) (by simp) ?_
      refine (AllReadyH.cons rfl (fun K hK => ?_) (AllReadyH.cons rfl (fun K hK => ?_) AllReadyH.nil))
      ·as_aux_lemma =>
        go_simp
        refine (shortS e.dst _ (by have := (uh EF).dst; omega)).mono ?_
        rintro x ws5 ⟨rfl, hb⟩
        replace A := hide ((uh A).ups hb); replace K1 := hide ((uh K1).ups hb); replace RS := hide ((uh RS).up hb); have sz6 := hide (hb.size); replace BB := hide (below_y (uh BB) hb); clear hb; go_wp2_with fail
        refine hK.out _ _ (⟨(uh K1).cell 0 rfl, (uh A).cell 0 rfl, (uh A).cell 1 rfl, (uh A).cell 2 rfl, (uh A).cell 3 rfl, (uh A).cell 4 rfl, (uh A).cell 5 rfl, (uh A).cell 6 rfl, (uh A).cell 7 rfl⟩) (fun hHeld2 => ?_)
        clear hK K hHeld; have hHeld := hHeld2; clear hHeld2
        try simp only [Act.put, p1, p2, p3]
        refine tv 12 19 ?_
        refine wpAnyH_ready (rs := [15, 24]) (by kernel_rfl) (by simp) ?_
        refine (AllReadyH.cons rfl (fun K hK => ?_) (AllReadyH.cons rfl (fun K hK => ?_) AllReadyH.nil))
        ·as_aux_lemma =>
          go_simp
          refine (setS e.set _ _ _ (uh SM).set (uh RS)).mono ?_
          rintro x ws6 ⟨rfl, hb⟩
          replace A := hide ((uh A).ups hb); replace K1 := hide ((uh K1).ups hb); replace RS := hide ((uh RS).up hb); have sz7 := hide (hb.size); replace BB := hide (below_y (uh BB) hb); clear hb; go_wp2_with fail
          refine hK.out _ _ (⟨(uh K1).cell 0 rfl, (uh A).cell 0 rfl, (uh A).cell 1 rfl, (uh A).cell 2 rfl, (uh A).cell 3 rfl, (uh A).cell 4 rfl, (uh A).cell 5 rfl, (uh A).cell 6 rfl, (uh A).cell 7 rfl⟩) (fun hHeld2 => ?_)
          clear hK K hHeld; have hHeld := hHeld2; clear hHeld2
          try simp only [Act.put, p1, p2, p3]
          refine wpAnyH_ready (rs := [16, 24]) (by kernel_rfl) (by simp) ?_
          refine (AllReadyH.cons rfl (fun K hK => ?_) (AllReadyH.cons rfl (fun K hK => ?_) AllReadyH.nil))
          ·as_aux_lemma =>
            go_simp
            refine (shortS (stB e.set) _ (by have := st_size e.set; omega)).mono ?_
            rintro x ws7 ⟨rfl, hb⟩
            replace A := hide ((uh A).ups hb); replace K1 := hide ((uh K1).ups hb); replace RS := hide ((uh RS).up hb); have sz8 := hide (hb.size); replace BB := hide (below_y (uh BB) hb); clear hb; go_wp2_with fail
            refine hK.out _ _ (⟨(uh K1).cell 0 rfl, (uh A).cell 0 rfl, (uh A).cell 1 rfl, (uh A).cell 2 rfl, (uh A).cell 3 rfl, (uh A).cell 4 rfl, (uh A).cell 5 rfl, (uh A).cell 6 rfl, (uh A).cell 7 rfl⟩) (fun hHeld2 => ?_)
            clear hK K hHeld; have hHeld := hHeld2; clear hHeld2
            try simp only [Act.put, p1, p2, p3]
            refine tv 17 24 ?_
            refine wpAnyH_ready (rs := [24, 30]) (by kernel_rfl) (by simp) ?_
            refine (AllReadyH.cons rfl (fun K hK => ?_) (AllReadyH.cons rfl (fun K hK => ?_) AllReadyH.nil))
            ·as_aux_lemma =>
              go_simp
              obtain ⟨ws8, hX⟩ : ∃ X, X = (ws7.alloc (.cells ([.int .u8 e.how, .int .u8 e.bits] : List Value).toArray 5)) := ⟨_, rfl⟩
              rw [← hX]
              have K2x : HasObj ws8 ws7.heap.size 5 [.int .u8 e.how, .int .u8 e.bits] := by rw [hX]; exact HasObj.new _ _ _
              have hbn : Below ws7.heap.size ws7 ws8 := by rw [hX]; exact (Below.refl ws7.heap.size ws7).alloc (Nat.le_refl _) _
              clear hX; replace A := hide ((uh A).ups hbn); replace K1 := hide ((uh K1).ups hbn); replace RS := hide ((uh RS).up hbn); have sz9 := hide (hbn.size); replace BB := hide (below_y (uh BB) hbn); clear hbn; have K2 := hide K2x; clear K2x
              refine hK.out _ _ (⟨(uh K1).cell 0 rfl, (uh A).cell 0 rfl, (uh A).cell 1 rfl, (uh A).cell 2 rfl, (uh A).cell 3 rfl, (uh A).cell 4 rfl, (uh A).cell 5 rfl, (uh A).cell 6 rfl, (uh A).cell 7 rfl⟩) (fun hHeld2 => ?_)
              clear hK K hHeld; have hHeld := hHeld2; clear hHeld2
              try simp only [Act.put, p1, p2, p3]
              refine heldMore (fun w' => w'.cell? ⟨ws7.heap.size, 1, none⟩ = some (.int .u8 e.bits)) ((uh K2).cell 1 rfl) hHeld (fun hHeld2 => ?_)
              clear hHeld; have hHeld := hHeld2; clear hHeld2
              refine heldMore (fun w' => w'.cell? ⟨ws7.heap.size, 0, none⟩ = some (.int .u8 e.how)) ((uh K2).cell 0 rfl) hHeld (fun hHeld2 => ?_)
              clear hHeld; have hHeld := hHeld2; clear hHeld2; have K2v := CV2 (ws7.heap.size)
              refine tv 25 32 ?_
              clear K2v
              refine tv 26 33 ?_
              refine wpAnyH_ready (rs := [30]) (by kernel_rfl) (by simp) ?_
              refine (AllReadyH.cons rfl (fun K hK => ?_) AllReadyH.nil)
              go_simp
              refine (varS (e.since + 1) _ (by have := (uh EF).since; omega) (by have := (uh EF).since; omega)).mono ?_
              rintro x ws9 ⟨rfl, hb⟩
              replace A := hide ((uh A).ups hb); replace K1 := hide ((uh K1).ups hb); replace K2 := hide ((uh K2).ups hb); replace RS := hide ((uh RS).up hb); have sz10 := hide (hb.size); replace BB := hide (below_y (uh BB) hb); clear hb; go_wp2_with fail
              refine hK.out _ _ (⟨(uh K2).cell 0 rfl, (uh K2).cell 1 rfl, (uh K1).cell 0 rfl, (uh A).cell 0 rfl, (uh A).cell 1 rfl, (uh A).cell 2 rfl, (uh A).cell 3 rfl, (uh A).cell 4 rfl, (uh A).cell 5 rfl, (uh A).cell 6 rfl, (uh A).cell 7 rfl⟩) (fun hHeld2 => ?_)
              clear hK K hHeld; have hHeld := hHeld2; clear hHeld2
              try simp only [Act.put, p1, p2, p3]
              refine tv 31 38 ?_
              refine wpAnyH_ready (rs := [34]) (by kernel_rfl) (by simp) ?_
              refine (AllReadyH.cons rfl (fun K hK => ?_) AllReadyH.nil)
              go_simp
              refine (shortS e.text _ (by have := (uh EF).text; omega)).mono ?_
              rintro x ws10 ⟨rfl, hb⟩
              replace A := hide ((uh A).ups hb); replace K1 := hide ((uh K1).ups hb); replace K2 := hide ((uh K2).ups hb); replace RS := hide ((uh RS).up hb); have sz11 := hide (hb.size); replace BB := hide (below_y (uh BB) hb); clear hb; go_wp2_with fail
              refine hK.out _ _ (⟨(uh K2).cell 0 rfl, (uh K2).cell 1 rfl, (uh K1).cell 0 rfl, (uh A).cell 0 rfl, (uh A).cell 1 rfl, (uh A).cell 2 rfl, (uh A).cell 3 rfl, (uh A).cell 4 rfl, (uh A).cell 5 rfl, (uh A).cell 6 rfl, (uh A).cell 7 rfl⟩) (fun hHeld2 => ?_)
              clear hK K hHeld; have hHeld := hHeld2; clear hHeld2
              try simp only [Act.put, p1, p2, p3]
              refine tv 35 42 ?_; refine tv 36 2 ?_; refine tv 37 3 ?_
              refine wpAnyH_done (by kernel_rfl) ?_ _
              go_wp2
              go_ret2
              rw [uh ANS]
              exact ⟨rfl, uh BB⟩
            ·as_aux_lemma =>
              go_simp
              refine (varS (e.since + 1) _ (by have := (uh EF).since; omega) (by have := (uh EF).since; omega)).mono ?_
              rintro x ws8 ⟨rfl, hb⟩
              replace A := hide ((uh A).ups hb); replace K1 := hide ((uh K1).ups hb); replace RS := hide ((uh RS).up hb); have sz9 := hide (hb.size); replace BB := hide (below_y (uh BB) hb); clear hb; go_wp2_with fail
              refine hK.out _ _ (⟨(uh K1).cell 0 rfl, (uh A).cell 0 rfl, (uh A).cell 1 rfl, (uh A).cell 2 rfl, (uh A).cell 3 rfl, (uh A).cell 4 rfl, (uh A).cell 5 rfl, (uh A).cell 6 rfl, (uh A).cell 7 rfl⟩) (fun hHeld2 => ?_)
              clear hK K hHeld; have hHeld := hHeld2; clear hHeld2
              try simp only [Act.put, p1, p2, p3]
              refine wpAnyH_ready (rs := [24, 34]) (by kernel_rfl) (by simp) ?_
              refine (AllReadyH.cons rfl (fun K hK => ?_) (AllReadyH.cons rfl (fun K hK => ?_) AllReadyH.nil))
              ·as_aux_lemma =>
                go_simp
                obtain ⟨ws9, hX⟩ : ∃ X, X = (ws8.alloc (.cells ([.int .u8 e.how, .int .u8 e.bits] : List Value).toArray 5)) := ⟨_, rfl⟩
                rw [← hX]
                have K2x : HasObj ws9 ws8.heap.size 5 [.int .u8 e.how, .int .u8 e.bits] := by rw [hX]; exact HasObj.new _ _ _
                have hbn : Below ws8.heap.size ws8 ws9 := by rw [hX]; exact (Below.refl ws8.heap.size ws8).alloc (Nat.le_refl _) _
                clear hX; replace A := hide ((uh A).ups hbn); replace K1 := hide ((uh K1).ups hbn); replace RS := hide ((uh RS).up hbn); have sz10 := hide (hbn.size); replace BB := hide (below_y (uh BB) hbn); clear hbn; have K2 := hide K2x; clear K2x
                refine hK.out _ _ (⟨(uh K1).cell 0 rfl, (uh A).cell 0 rfl, (uh A).cell 1 rfl, (uh A).cell 2 rfl, (uh A).cell 3 rfl, (uh A).cell 4 rfl, (uh A).cell 5 rfl, (uh A).cell 6 rfl, (uh A).cell 7 rfl⟩) (fun hHeld2 => ?_)
                clear hK K hHeld; have hHeld := hHeld2; clear hHeld2
                try simp only [Act.put, p1, p2, p3]
                refine heldMore (fun w' => w'.cell? ⟨ws8.heap.size, 1, none⟩ = some (.int .u8 e.bits)) ((uh K2).cell 1 rfl) hHeld (fun hHeld2 => ?_)
                clear hHeld; have hHeld := hHeld2; clear hHeld2
                refine heldMore (fun w' => w'.cell? ⟨ws8.heap.size, 0, none⟩ = some (.int .u8 e.how)) ((uh K2).cell 0 rfl) hHeld (fun hHeld2 => ?_)
                clear hHeld; have hHeld := hHeld2; clear hHeld2; have K2v := CV2 (ws8.heap.size)
                refine tv 25 32 ?_
                clear K2v
                refine tv 26 33 ?_; refine tv 31 38 ?_
                refine wpAnyH_ready (rs := [34]) (by kernel_rfl) (by simp) ?_
                refine (AllReadyH.cons rfl (fun K hK => ?_) AllReadyH.nil)
                go_simp
                refine (shortS e.text _ (by have := (uh EF).text; omega)).mono ?_
                rintro x ws10 ⟨rfl, hb⟩
                replace A := hide ((uh A).ups hb); replace K1 := hide ((uh K1).ups hb); replace K2 := hide ((uh K2).ups hb); replace RS := hide ((uh RS).up hb); have sz11 := hide (hb.size); replace BB := hide (below_y (uh BB) hb); clear hb; go_wp2_with fail
                refine hK.out _ _ (⟨(uh K2).cell 0 rfl, (uh K2).cell 1 rfl, (uh K1).cell 0 rfl, (uh A).cell 0 rfl, (uh A).cell 1 rfl, (uh A).cell 2 rfl, (uh A).cell 3 rfl, (uh A).cell 4 rfl, (uh A).cell 5 rfl, (uh A).cell 6 rfl, (uh A).cell 7 rfl⟩) (fun hHeld2 => ?_)
                clear hK K hHeld; have hHeld := hHeld2; clear hHeld2
                try simp only [Act.put, p1, p2, p3]
                refine tv 35 42 ?_; refine tv 36 2 ?_; refine tv 37 3 ?_
                refine wpAnyH_done (by kernel_rfl) ?_ _
                go_wp2
                go_ret2
                rw [uh ANS]
                exact ⟨rfl, uh BB⟩
              ·as_aux_lemma =>
                go_simp
                refine (shortS e.text _ (by have := (uh EF).text; omega)).mono ?_
                rintro x ws9 ⟨rfl, hb⟩
                replace A := hide ((uh A).ups hb); replace K1 := hide ((uh K1).ups hb); replace RS := hide ((uh RS).up hb); have sz10 := hide (hb.size); replace BB := hide (below_y (uh BB) hb); clear hb; go_wp2_with fail
                refine hK.out _ _ (⟨(uh K1).cell 0 rfl, (uh A).cell 0 rfl, (uh A).cell 1 rfl, (uh A).cell 2 rfl, (uh A).cell 3 rfl, (uh A).cell 4 rfl, (uh A).cell 5 rfl, (uh A).cell 6 rfl, (uh A).cell 7 rfl⟩) (fun hHeld2 => ?_)
                clear hK K hHeld; have hHeld := hHeld2; clear hHeld2
                try simp only [Act.put, p1, p2, p3]
                refine wpAnyH_ready (rs := [24]) (by kernel_rfl) (by simp) ?_
                refine (AllReadyH.cons rfl (fun K hK => ?_) AllReadyH.nil)
                go_simp
                obtain ⟨ws10, hX⟩ : ∃ X, X = (ws9.alloc (.cells ([.int .u8 e.how, .int .u8 e.bits] : List Value).toArray 5)) := ⟨_, rfl⟩
                rw [← hX]
                have K2x : HasObj ws10 ws9.heap.size 5 [.int .u8 e.how, .int .u8 e.bits] := by rw [hX]; exact HasObj.new _ _ _
                have hbn : Below ws9.heap.size ws9 ws10 := by rw [hX]; exact (Below.refl ws9.heap.size ws9).alloc (Nat.le_refl _) _
                clear hX; replace A := hide ((uh A).ups hbn); replace K1 := hide ((uh K1).ups hbn); replace RS := hide ((uh RS).up hbn); have sz11 := hide (hbn.size); replace BB := hide (below_y (uh BB) hbn); clear hbn; have K2 := hide K2x; clear K2x
                refine hK.out _ _ (⟨(uh K1).cell 0 rfl, (uh A).cell 0 rfl, (uh A).cell 1 rfl, (uh A).cell 2 rfl, (uh A).cell 3 rfl, (uh A).cell 4 rfl, (uh A).cell 5 rfl, (uh A).cell 6 rfl, (uh A).cell 7 rfl⟩) (fun hHeld2 => ?_)
                clear hK K hHeld; have hHeld := hHeld2; clear hHeld2
                try simp only [Act.put, p1, p2, p3]
                refine heldMore (fun w' => w'.cell? ⟨ws9.heap.size, 1, none⟩ = some (.int .u8 e.bits)) ((uh K2).cell 1 rfl) hHeld (fun hHeld2 => ?_)
                clear hHeld; have hHeld := hHeld2; clear hHeld2
                refine heldMore (fun w' => w'.cell? ⟨ws9.heap.size, 0, none⟩ = some (.int .u8 e.how)) ((uh K2).cell 0 rfl) hHeld (fun hHeld2 => ?_)
                clear hHeld; have hHeld := hHeld2; clear hHeld2; have K2v := CV2 (ws9.heap.size)
                refine tv 25 32 ?_
                clear K2v
                refine tv 26 33 ?_; refine tv 31 38 ?_; refine tv 35 42 ?_; refine tv 36 2 ?_; refine tv 37 3 ?_
                refine wpAnyH_done (by kernel_rfl) ?_ _
                go_wp2
                go_ret2
                rw [uh ANS]
                exact ⟨rfl, uh BB⟩
          ·as_aux_lemma =>
            go_simp
            obtain ⟨ws7, hX⟩ : ∃ X, X = (ws6.alloc (.cells ([.int .u8 e.how, .int .u8 e.bits] : List Value).toArray 5)) := ⟨_, rfl⟩
            rw [← hX]
            have K2x : HasObj ws7 ws6.heap.size 5 [.int .u8 e.how, .int .u8 e.bits] := by rw [hX]; exact HasObj.new _ _ _
            have hbn : Below ws6.heap.size ws6 ws7 := by rw [hX]; exact (Below.refl ws6.heap.size ws6).alloc (Nat.le_refl _) _
            clear hX; replace A := hide ((uh A).ups hbn); replace K1 := hide ((uh K1).ups hbn); replace RS := hide ((uh RS).up hbn); have sz8 := hide (hbn.size); replace BB := hide (below_y (uh BB) hbn); clear hbn; have K2 := hide K2x; clear K2x
            refine hK.out _ _ (⟨(uh K1).cell 0 rfl, (uh A).cell 0 rfl, (uh A).cell 1 rfl, (uh A).cell 2 rfl, (uh A).cell 3 rfl, (uh A).cell 4 rfl, (uh A).cell 5 rfl, (uh A).cell 6 rfl, (uh A).cell 7 rfl⟩) (fun hHeld2 => ?_)
            clear hK K hHeld; have hHeld := hHeld2; clear hHeld2
            try simp only [Act.put, p1, p2, p3]
            refine heldMore (fun w' => w'.cell? ⟨ws6.heap.size, 1, none⟩ = some (.int .u8 e.bits)) ((uh K2).cell 1 rfl) hHeld (fun hHeld2 => ?_)
            clear hHeld; have hHeld := hHeld2; clear hHeld2
            refine heldMore (fun w' => w'.cell? ⟨ws6.heap.size, 0, none⟩ = some (.int .u8 e.how)) ((uh K2).cell 0 rfl) hHeld (fun hHeld2 => ?_)
            clear hHeld; have hHeld := hHeld2; clear hHeld2; have K2v := CV2 (ws6.heap.size)
            refine tv 25 32 ?_
            clear K2v
            refine wpAnyH_ready (rs := [16]) (by kernel_rfl) (by simp) ?_
            refine (AllReadyH.cons rfl (fun K hK => ?_) AllReadyH.nil)
            go_simp
            refine (shortS (stB e.set) _ (by have := st_size e.set; omega)).mono ?_
            rintro x ws8 ⟨rfl, hb⟩
            replace A := hide ((uh A).ups hb); replace K1 := hide ((uh K1).ups hb); replace K2 := hide ((uh K2).ups hb); replace RS := hide ((uh RS).up hb); have sz9 := hide (hb.size); replace BB := hide (below_y (uh BB) hb); clear hb; go_wp2_with fail
            refine hK.out _ _ (⟨(uh K2).cell 0 rfl, (uh K2).cell 1 rfl, (uh K1).cell 0 rfl, (uh A).cell 0 rfl, (uh A).cell 1 rfl, (uh A).cell 2 rfl, (uh A).cell 3 rfl, (uh A).cell 4 rfl, (uh A).cell 5 rfl, (uh A).cell 6 rfl, (uh A).cell 7 rfl⟩) (fun hHeld2 => ?_)
            clear hK K hHeld; have hHeld := hHeld2; clear hHeld2
            try simp only [Act.put, p1, p2, p3]
            refine tv 17 24 ?_; refine tv 26 33 ?_
            refine wpAnyH_ready (rs := [30]) (by kernel_rfl) (by simp) ?_
            refine (AllReadyH.cons rfl (fun K hK => ?_) AllReadyH.nil)
            go_simp
            refine (varS (e.since + 1) _ (by have := (uh EF).since; omega) (by have := (uh EF).since; omega)).mono ?_
            rintro x ws9 ⟨rfl, hb⟩
            replace A := hide ((uh A).ups hb); replace K1 := hide ((uh K1).ups hb); replace K2 := hide ((uh K2).ups hb); replace RS := hide ((uh RS).up hb); have sz10 := hide (hb.size); replace BB := hide (below_y (uh BB) hb); clear hb; go_wp2_with fail
            refine hK.out _ _ (⟨(uh K2).cell 0 rfl, (uh K2).cell 1 rfl, (uh K1).cell 0 rfl, (uh A).cell 0 rfl, (uh A).cell 1 rfl, (uh A).cell 2 rfl, (uh A).cell 3 rfl, (uh A).cell 4 rfl, (uh A).cell 5 rfl, (uh A).cell 6 rfl, (uh A).cell 7 rfl⟩) (fun hHeld2 => ?_)
            clear hK K hHeld; have hHeld := hHeld2; clear hHeld2
            try simp only [Act.put, p1, p2, p3]
            refine tv 31 38 ?_
            refine wpAnyH_ready (rs := [34]) (by kernel_rfl) (by simp) ?_
            refine (AllReadyH.cons rfl (fun K hK => ?_) AllReadyH.nil)
            go_simp
            refine (shortS e.text _ (by have := (uh EF).text; omega)).mono ?_
            rintro x ws10 ⟨rfl, hb⟩
            replace A := hide ((uh A).ups hb); replace K1 := hide ((uh K1).ups hb); replace K2 := hide ((uh K2).ups hb); replace RS := hide ((uh RS).up hb); have sz11 := hide (hb.size); replace BB := hide (below_y (uh BB) hb); clear hb; go_wp2_with fail
            refine hK.out _ _ (⟨(uh K2).cell 0 rfl, (uh K2).cell 1 rfl, (uh K1).cell 0 rfl, (uh A).cell 0 rfl, (uh A).cell 1 rfl, (uh A).cell 2 rfl, (uh A).cell 3 rfl, (uh A).cell 4 rfl, (uh A).cell 5 rfl, (uh A).cell 6 rfl, (uh A).cell 7 rfl⟩) (fun hHeld2 => ?_)
            clear hK K hHeld; have hHeld := hHeld2; clear hHeld2
            try simp only [Act.put, p1, p2, p3]
            refine tv 35 42 ?_; refine tv 36 2 ?_; refine tv 37 3 ?_
            refine wpAnyH_done (by kernel_rfl) ?_ _
            go_wp2
            go_ret2
            rw [uh ANS]
            exact ⟨rfl, uh BB⟩
        ·as_aux_lemma =>
          go_simp
          obtain ⟨ws6, hX⟩ : ∃ X, X = (ws5.alloc (.cells ([.int .u8 e.how, .int .u8 e.bits] : List Value).toArray 5)) := ⟨_, rfl⟩
          rw [← hX]
          have K2x : HasObj ws6 ws5.heap.size 5 [.int .u8 e.how, .int .u8 e.bits] := by rw [hX]; exact HasObj.new _ _ _
          have hbn : Below ws5.heap.size ws5 ws6 := by rw [hX]; exact (Below.refl ws5.heap.size ws5).alloc (Nat.le_refl _) _
          clear hX; replace A := hide ((uh A).ups hbn); replace K1 := hide ((uh K1).ups hbn); replace RS := hide ((uh RS).up hbn); have sz7 := hide (hbn.size); replace BB := hide (below_y (uh BB) hbn); clear hbn; have K2 := hide K2x; clear K2x
          refine hK.out _ _ (⟨(uh K1).cell 0 rfl, (uh A).cell 0 rfl, (uh A).cell 1 rfl, (uh A).cell 2 rfl, (uh A).cell 3 rfl, (uh A).cell 4 rfl, (uh A).cell 5 rfl, (uh A).cell 6 rfl, (uh A).cell 7 rfl⟩) (fun hHeld2 => ?_)
          clear hK K hHeld; have hHeld := hHeld2; clear hHeld2
          try simp only [Act.put, p1, p2, p3]
          refine heldMore (fun w' => w'.cell? ⟨ws5.heap.size, 1, none⟩ = some (.int .u8 e.bits)) ((uh K2).cell 1 rfl) hHeld (fun hHeld2 => ?_)
          clear hHeld; have hHeld := hHeld2; clear hHeld2
          refine heldMore (fun w' => w'.cell? ⟨ws5.heap.size, 0, none⟩ = some (.int .u8 e.how)) ((uh K2).cell 0 rfl) hHeld (fun hHeld2 => ?_)
          clear hHeld; have hHeld := hHeld2; clear hHeld2; have K2v := CV2 (ws5.heap.size)
          refine tv 25 32 ?_
          clear K2v
          refine wpAnyH_ready (rs := [15]) (by kernel_rfl) (by simp) ?_
          refine (AllReadyH.cons rfl (fun K hK => ?_) AllReadyH.nil)
          go_simp
          refine (setS e.set _ _ _ (uh SM).set (uh RS)).mono ?_
          rintro x ws7 ⟨rfl, hb⟩
          replace A := hide ((uh A).ups hb); replace K1 := hide ((uh K1).ups hb); replace K2 := hide ((uh K2).ups hb); replace RS := hide ((uh RS).up hb); have sz8 := hide (hb.size); replace BB := hide (below_y (uh BB) hb); clear hb; go_wp2_with fail
          refine hK.out _ _ (⟨(uh K2).cell 0 rfl, (uh K2).cell 1 rfl, (uh K1).cell 0 rfl, (uh A).cell 0 rfl, (uh A).cell 1 rfl, (uh A).cell 2 rfl, (uh A).cell 3 rfl, (uh A).cell 4 rfl, (uh A).cell 5 rfl, (uh A).cell 6 rfl, (uh A).cell 7 rfl⟩) (fun hHeld2 => ?_)
          clear hK K hHeld; have hHeld := hHeld2; clear hHeld2
          try simp only [Act.put, p1, p2, p3]
          refine wpAnyH_ready (rs := [16]) (by kernel_rfl) (by simp) ?_
          refine (AllReadyH.cons rfl (fun K hK => ?_) AllReadyH.nil)
          go_simp
          refine (shortS (stB e.set) _ (by have := st_size e.set; omega)).mono ?_
          rintro x ws8 ⟨rfl, hb⟩
          replace A := hide ((uh A).ups hb); replace K1 := hide ((uh K1).ups hb); replace K2 := hide ((uh K2).ups hb); replace RS := hide ((uh RS).up hb); have sz9 := hide (hb.size); replace BB := hide (below_y (uh BB) hb); clear hb; go_wp2_with fail
          refine hK.out _ _ (⟨(uh K2).cell 0 rfl, (uh K2).cell 1 rfl, (uh K1).cell 0 rfl, (uh A).cell 0 rfl, (uh A).cell 1 rfl, (uh A).cell 2 rfl, (uh A).cell 3 rfl, (uh A).cell 4 rfl, (uh A).cell 5 rfl, (uh A).cell 6 rfl, (uh A).cell 7 rfl⟩) (fun hHeld2 => ?_)
          clear hK K hHeld; have hHeld := hHeld2; clear hHeld2
          try simp only [Act.put, p1, p2, p3]
          refine tv 17 24 ?_; refine tv 26 33 ?_
          refine wpAnyH_ready (rs := [30]) (by kernel_rfl) (by simp) ?_
          refine (AllReadyH.cons rfl (fun K hK => ?_) AllReadyH.nil)
          go_simp
          refine (varS (e.since + 1) _ (by have := (uh EF).since; omega) (by have := (uh EF).since; omega)).mono ?_
          rintro x ws9 ⟨rfl, hb⟩
          replace A := hide ((uh A).ups hb); replace K1 := hide ((uh K1).ups hb); replace K2 := hide ((uh K2).ups hb); replace RS := hide ((uh RS).up hb); have sz10 := hide (hb.size); replace BB := hide (below_y (uh BB) hb); clear hb; go_wp2_with fail
          refine hK.out _ _ (⟨(uh K2).cell 0 rfl, (uh K2).cell 1 rfl, (uh K1).cell 0 rfl, (uh A).cell 0 rfl, (uh A).cell 1 rfl, (uh A).cell 2 rfl, (uh A).cell 3 rfl, (uh A).cell 4 rfl, (uh A).cell 5 rfl, (uh A).cell 6 rfl, (uh A).cell 7 rfl⟩) (fun hHeld2 => ?_)
          clear hK K hHeld; have hHeld := hHeld2; clear hHeld2
          try simp only [Act.put, p1, p2, p3]
          refine tv 31 38 ?_
          refine wpAnyH_ready (rs := [34]) (by kernel_rfl) (by simp) ?_
          refine (AllReadyH.cons rfl (fun K hK => ?_) AllReadyH.nil)
          go_simp
          refine (shortS e.text _ (by have := (uh EF).text; omega)).mono ?_
          rintro x ws10 ⟨rfl, hb⟩
          replace A := hide ((uh A).ups hb); replace K1 := hide ((uh K1).ups hb); replace K2 := hide ((uh K2).ups hb); replace RS := hide ((uh RS).up hb); have sz11 := hide (hb.size); replace BB := hide (below_y (uh BB) hb); clear hb; go_wp2_with fail
          refine hK.out _ _ (⟨(uh K2).cell 0 rfl, (uh K2).cell 1 rfl, (uh K1).cell 0 rfl, (uh A).cell 0 rfl, (uh A).cell 1 rfl, (uh A).cell 2 rfl, (uh A).cell 3 rfl, (uh A).cell 4 rfl, (uh A).cell 5 rfl, (uh A).cell 6 rfl, (uh A).cell 7 rfl⟩) (fun hHeld2 => ?_)
          clear hK K hHeld; have hHeld := hHeld2; clear hHeld2
          try simp only [Act.put, p1, p2, p3]
          refine tv 35 42 ?_; refine tv 36 2 ?_; refine tv 37 3 ?_
          refine wpAnyH_done (by kernel_rfl) ?_ _
          go_wp2
          go_ret2
          rw [uh ANS]
          exact ⟨rfl, uh BB⟩
      ·as_aux_lemma =>
        go_simp
        obtain ⟨ws5, hX⟩ : ∃ X, X = (ws4.alloc (.cells ([.int .u8 e.how, .int .u8 e.bits] : List Value).toArray 5)) := ⟨_, rfl⟩
        rw [← hX]
        have K2x : HasObj ws5 ws4.heap.size 5 [.int .u8 e.how, .int .u8 e.bits] := by rw [hX]; exact HasObj.new _ _ _
        have hbn : Below ws4.heap.size ws4 ws5 := by rw [hX]; exact (Below.refl ws4.heap.size ws4).alloc (Nat.le_refl _) _
        clear hX; replace A := hide ((uh A).ups hbn); replace K1 := hide ((uh K1).ups hbn); replace RS := hide ((uh RS).up hbn); have sz6 := hide (hbn.size); replace BB := hide (below_y (uh BB) hbn); clear hbn; have K2 := hide K2x; clear K2x
        refine hK.out _ _ (⟨(uh K1).cell 0 rfl, (uh A).cell 0 rfl, (uh A).cell 1 rfl, (uh A).cell 2 rfl, (uh A).cell 3 rfl, (uh A).cell 4 rfl, (uh A).cell 5 rfl, (uh A).cell 6 rfl, (uh A).cell 7 rfl⟩) (fun hHeld2 => ?_)
        clear hK K hHeld; have hHeld := hHeld2; clear hHeld2
        try simp only [Act.put, p1, p2, p3]
        refine heldMore (fun w' => w'.cell? ⟨ws4.heap.size, 1, none⟩ = some (.int .u8 e.bits)) ((uh K2).cell 1 rfl) hHeld (fun hHeld2 => ?_)
        clear hHeld; have hHeld := hHeld2; clear hHeld2
        refine heldMore (fun w' => w'.cell? ⟨ws4.heap.size, 0, none⟩ = some (.int .u8 e.how)) ((uh K2).cell 0 rfl) hHeld (fun hHeld2 => ?_)
        clear hHeld; have hHeld := hHeld2; clear hHeld2; have K2v := CV2 (ws4.heap.size)
        refine tv 25 32 ?_
        clear K2v
        refine wpAnyH_ready (rs := [11]) (by kernel_rfl) (by simp) ?_
        refine (AllReadyH.cons rfl (fun K hK => ?_) AllReadyH.nil)
        go_simp
        refine (shortS e.dst _ (by have := (uh EF).dst; omega)).mono ?_
        rintro x ws6 ⟨rfl, hb⟩
        replace A := hide ((uh A).ups hb); replace K1 := hide ((uh K1).ups hb); replace K2 := hide ((uh K2).ups hb); replace RS := hide ((uh RS).up hb); have sz7 := hide (hb.size); replace BB := hide (below_y (uh BB) hb); clear hb; go_wp2_with fail
        refine hK.out _ _ (⟨(uh K2).cell 0 rfl, (uh K2).cell 1 rfl, (uh K1).cell 0 rfl, (uh A).cell 0 rfl, (uh A).cell 1 rfl, (uh A).cell 2 rfl, (uh A).cell 3 rfl, (uh A).cell 4 rfl, (uh A).cell 5 rfl, (uh A).cell 6 rfl, (uh A).cell 7 rfl⟩) (fun hHeld2 => ?_)
        clear hK K hHeld; have hHeld := hHeld2; clear hHeld2
        try simp only [Act.put, p1, p2, p3]
        refine tv 12 19 ?_
        refine wpAnyH_ready (rs := [15]) (by kernel_rfl) (by simp) ?_
        refine (AllReadyH.cons rfl (fun K hK => ?_) AllReadyH.nil)
        go_simp
        refine (setS e.set _ _ _ (uh SM).set (uh RS)).mono ?_
        rintro x ws7 ⟨rfl, hb⟩
        replace A := hide ((uh A).ups hb); replace K1 := hide ((uh K1).ups hb); replace K2 := hide ((uh K2).ups hb); replace RS := hide ((uh RS).up hb); have sz8 := hide (hb.size); replace BB := hide (below_y (uh BB) hb); clear hb; go_wp2_with fail
        refine hK.out _ _ (⟨(uh K2).cell 0 rfl, (uh K2).cell 1 rfl, (uh K1).cell 0 rfl, (uh A).cell 0 rfl, (uh A).cell 1 rfl, (uh A).cell 2 rfl, (uh A).cell 3 rfl, (uh A).cell 4 rfl, (uh A).cell 5 rfl, (uh A).cell 6 rfl, (uh A).cell 7 rfl⟩) (fun hHeld2 => ?_)
        clear hK K hHeld; have hHeld := hHeld2; clear hHeld2
        try simp only [Act.put, p1, p2, p3]
        refine wpAnyH_ready (rs := [16]) (by kernel_rfl) (by simp) ?_
        refine (AllReadyH.cons rfl (fun K hK => ?_) AllReadyH.nil)
        go_simp
        refine (shortS (stB e.set) _ (by have := st_size e.set; omega)).mono ?_
        rintro x ws8 ⟨rfl, hb⟩
        replace A := hide ((uh A).ups hb); replace K1 := hide ((uh K1).ups hb); replace K2 := hide ((uh K2).ups hb); replace RS := hide ((uh RS).up hb); have sz9 := hide (hb.size); replace BB := hide (below_y (uh BB) hb); clear hb; go_wp2_with fail
        refine hK.out _ _ (⟨(uh K2).cell 0 rfl, (uh K2).cell 1 rfl, (uh K1).cell 0 rfl, (uh A).cell 0 rfl, (uh A).cell 1 rfl, (uh A).cell 2 rfl, (uh A).cell 3 rfl, (uh A).cell 4 rfl, (uh A).cell 5 rfl, (uh A).cell 6 rfl, (uh A).cell 7 rfl⟩) (fun hHeld2 => ?_)
        clear hK K hHeld; have hHeld := hHeld2; clear hHeld2
        try simp only [Act.put, p1, p2, p3]
        refine tv 17 24 ?_; refine tv 26 33 ?_
        refine wpAnyH_ready (rs := [30]) (by kernel_rfl) (by simp) ?_
        refine (AllReadyH.cons rfl (fun K hK => ?_) AllReadyH.nil)
        go_simp
        refine (varS (e.since + 1) _ (by have := (uh EF).since; omega) (by have := (uh EF).since; omega)).mono ?_
        rintro x ws9 ⟨rfl, hb⟩
        replace A := hide ((uh A).ups hb); replace K1 := hide ((uh K1).ups hb); replace K2 := hide ((uh K2).ups hb); replace RS := hide ((uh RS).up hb); have sz10 := hide (hb.size); replace BB := hide (below_y (uh BB) hb); clear hb; go_wp2_with fail
        refine hK.out _ _ (⟨(uh K2).cell 0 rfl, (uh K2).cell 1 rfl, (uh K1).cell 0 rfl, (uh A).cell 0 rfl, (uh A).cell 1 rfl, (uh A).cell 2 rfl, (uh A).cell 3 rfl, (uh A).cell 4 rfl, (uh A).cell 5 rfl, (uh A).cell 6 rfl, (uh A).cell 7 rfl⟩) (fun hHeld2 => ?_)
        clear hK K hHeld; have hHeld := hHeld2; clear hHeld2
        try simp only [Act.put, p1, p2, p3]
        refine tv 31 38 ?_
        refine wpAnyH_ready (rs := [34]) (by kernel_rfl) (by simp) ?_
        refine (AllReadyH.cons rfl (fun K hK => ?_) AllReadyH.nil)
        go_simp
        refine (shortS e.text _ (by have := (uh EF).text; omega)).mono ?_
        rintro x ws10 ⟨rfl, hb⟩
        replace A := hide ((uh A).ups hb); replace K1 := hide ((uh K1).ups hb); replace K2 := hide ((uh K2).ups hb); replace RS := hide ((uh RS).up hb); have sz11 := hide (hb.size); replace BB := hide (below_y (uh BB) hb); clear hb; go_wp2_with fail
        refine hK.out _ _ (⟨(uh K2).cell 0 rfl, (uh K2).cell 1 rfl, (uh K1).cell 0 rfl, (uh A).cell 0 rfl, (uh A).cell 1 rfl, (uh A).cell 2 rfl, (uh A).cell 3 rfl, (uh A).cell 4 rfl, (uh A).cell 5 rfl, (uh A).cell 6 rfl, (uh A).cell 7 rfl⟩) (fun hHeld2 => ?_)
        clear hK K hHeld; have hHeld := hHeld2; clear hHeld2
        try simp only [Act.put, p1, p2, p3]
        refine tv 35 42 ?_; refine tv 36 2 ?_; refine tv 37 3 ?_
        refine wpAnyH_done (by kernel_rfl) ?_ _
        go_wp2
        go_ret2
        rw [uh ANS]
        exact ⟨rfl, uh BB⟩
    ·as_aux_lemma =>
      go_simp
      refine (shortS e.dst _ (by have := (uh EF).dst; omega)).mono ?_
      rintro x ws4 ⟨rfl, hb⟩
      replace A := hide ((uh A).ups hb); replace RS := hide ((uh RS).up hb); have sz5 := hide (hb.size); replace BB := hide (below_y (uh BB) hb); clear hb; go_wp2_with fail
      refine hK.out _ _ (⟨(uh A).cell 0 rfl, (uh A).cell 1 rfl, (uh A).cell 2 rfl, (uh A).cell 3 rfl, (uh A).cell 4 rfl, (uh A).cell 5 rfl, (uh A).cell 6 rfl, (uh A).cell 7 rfl⟩) (fun hHeld2 => ?_)
      clear hK K hHeld; have hHeld := hHeld2; clear hHeld2
      try simp only [Act.put, p1, p2, p3]
      refine wpAnyH_ready (rs := [3, 15, 24]) (by kernel_rfl) (by simp) ?_
      refine (AllReadyH.cons rfl (fun K hK => ?_) (AllReadyH.cons rfl (fun K hK => ?_) (AllReadyH.cons rfl (fun K hK => ?_) AllReadyH.nil)))
      ·as_aux_lemma =>
        go_simp
        obtain ⟨ws5, hX⟩ : ∃ X, X = (ws4.alloc (.cells ([.int .u8 e.kind] : List Value).toArray 5)) := ⟨_, rfl⟩
        rw [← hX]
        have K1x : HasObj ws5 ws4.heap.size 5 [.int .u8 e.kind] := by rw [hX]; exact HasObj.new _ _ _
        have hbn : Below ws4.heap.size ws4 ws5 := by rw [hX]; exact (Below.refl ws4.heap.size ws4).alloc (Nat.le_refl _) _
        clear hX; replace A := hide ((uh A).ups hbn); replace RS := hide ((uh RS).up hbn); have sz6 := hide (hbn.size); replace BB := hide (below_y (uh BB) hbn); clear hbn; have K1 := hide K1x; clear K1x
        refine hK.out _ _ (⟨(uh A).cell 0 rfl, (uh A).cell 1 rfl, (uh A).cell 2 rfl, (uh A).cell 3 rfl, (uh A).cell 4 rfl, (uh A).cell 5 rfl, (uh A).cell 6 rfl, (uh A).cell 7 rfl⟩) (fun hHeld2 => ?_)
        clear hK K hHeld; have hHeld := hHeld2; clear hHeld2
        try simp only [Act.put, p1, p2, p3]
        refine heldMore (fun w' => w'.cell? ⟨ws4.heap.size, 0, none⟩ = some (.int .u8 e.kind)) ((uh K1).cell 0 rfl) hHeld (fun hHeld2 => ?_)
        clear hHeld; have hHeld := hHeld2; clear hHeld2; have K1v := CV1 (ws4.heap.size)
        refine tv 4 11 ?_
        clear K1v
        refine tv 8 15 ?_; refine tv 12 19 ?_
        refine wpAnyH_ready (rs := [15, 24]) (by kernel_rfl) (by simp) ?_
        refine (AllReadyH.cons rfl (fun K hK => ?_) (AllReadyH.cons rfl (fun K hK => ?_) AllReadyH.nil))
        ·as_aux_lemma =>
          go_simp
          refine (setS e.set _ _ _ (uh SM).set (uh RS)).mono ?_
          rintro x ws6 ⟨rfl, hb⟩
          replace A := hide ((uh A).ups hb); replace K1 := hide ((uh K1).ups hb); replace RS := hide ((uh RS).up hb); have sz7 := hide (hb.size); replace BB := hide (below_y (uh BB) hb); clear hb; go_wp2_with fail
          refine hK.out _ _ (⟨(uh K1).cell 0 rfl, (uh A).cell 0 rfl, (uh A).cell 1 rfl, (uh A).cell 2 rfl, (uh A).cell 3 rfl, (uh A).cell 4 rfl, (uh A).cell 5 rfl, (uh A).cell 6 rfl, (uh A).cell 7 rfl⟩) (fun hHeld2 => ?_)
          clear hK K hHeld; have hHeld := hHeld2; clear hHeld2
          try simp only [Act.put, p1, p2, p3]
          refine wpAnyH_ready (rs := [16, 24]) (by kernel_rfl) (by simp) ?_
          refine (AllReadyH.cons rfl (fun K hK => ?_) (AllReadyH.cons rfl (fun K hK => ?_) AllReadyH.nil))
          ·as_aux_lemma =>
            go_simp
            refine (shortS (stB e.set) _ (by have := st_size e.set; omega)).mono ?_
            rintro x ws7 ⟨rfl, hb⟩
            replace A := hide ((uh A).ups hb); replace K1 := hide ((uh K1).ups hb); replace RS := hide ((uh RS).up hb); have sz8 := hide (hb.size); replace BB := hide (below_y (uh BB) hb); clear hb; go_wp2_with fail
            refine hK.out _ _ (⟨(uh K1).cell 0 rfl, (uh A).cell 0 rfl, (uh A).cell 1 rfl, (uh A).cell 2 rfl, (uh A).cell 3 rfl, (uh A).cell 4 rfl, (uh A).cell 5 rfl, (uh A).cell 6 rfl, (uh A).cell 7 rfl⟩) (fun hHeld2 => ?_)
            clear hK K hHeld; have hHeld := hHeld2; clear hHeld2
            try simp only [Act.put, p1, p2, p3]
            refine tv 17 24 ?_
            refine wpAnyH_ready (rs := [24, 30]) (by kernel_rfl) (by simp) ?_
            refine (AllReadyH.cons rfl (fun K hK => ?_) (AllReadyH.cons rfl (fun K hK => ?_) AllReadyH.nil))
            ·as_aux_lemma =>
              go_simp
              obtain ⟨ws8, hX⟩ : ∃ X, X = (ws7.alloc (.cells ([.int .u8 e.how, .int .u8 e.bits] : List Value).toArray 5)) := ⟨_, rfl⟩
              rw [← hX]
              have K2x : HasObj ws8 ws7.heap.size 5 [.int .u8 e.how, .int .u8 e.bits] := by rw [hX]; exact HasObj.new _ _ _
              have hbn : Below ws7.heap.size ws7 ws8 := by rw [hX]; exact (Below.refl ws7.heap.size ws7).alloc (Nat.le_refl _) _
              clear hX; replace A := hide ((uh A).ups hbn); replace K1 := hide ((uh K1).ups hbn); replace RS := hide ((uh RS).up hbn); have sz9 := hide (hbn.size); replace BB := hide (below_y (uh BB) hbn); clear hbn; have K2 := hide K2x; clear K2x
              refine hK.out _ _ (⟨(uh K1).cell 0 rfl, (uh A).cell 0 rfl, (uh A).cell 1 rfl, (uh A).cell 2 rfl, (uh A).cell 3 rfl, (uh A).cell 4 rfl, (uh A).cell 5 rfl, (uh A).cell 6 rfl, (uh A).cell 7 rfl⟩) (fun hHeld2 => ?_)
              clear hK K hHeld; have hHeld := hHeld2; clear hHeld2
              try simp only [Act.put, p1, p2, p3]
              refine heldMore (fun w' => w'.cell? ⟨ws7.heap.size, 1, none⟩ = some (.int .u8 e.bits)) ((uh K2).cell 1 rfl) hHeld (fun hHeld2 => ?_)
              clear hHeld; have hHeld := hHeld2; clear hHeld2
              refine heldMore (fun w' => w'.cell? ⟨ws7.heap.size, 0, none⟩ = some (.int .u8 e.how)) ((uh K2).cell 0 rfl) hHeld (fun hHeld2 => ?_)
              clear hHeld; have hHeld := hHeld2; clear hHeld2; have K2v := CV2 (ws7.heap.size)
              refine tv 25 32 ?_
              clear K2v
              refine tv 26 33 ?_
              refine wpAnyH_ready (rs := [30]) (by kernel_rfl) (by simp) ?_
              refine (AllReadyH.cons rfl (fun K hK => ?_) AllReadyH.nil)
              go_simp
              refine (varS (e.since + 1) _ (by have := (uh EF).since; omega) (by have := (uh EF).since; omega)).mono ?_
              rintro x ws9 ⟨rfl, hb⟩
              replace A := hide ((uh A).ups hb); replace K1 := hide ((uh K1).ups hb); replace K2 := hide ((uh K2).ups hb); replace RS := hide ((uh RS).up hb); have sz10 := hide (hb.size); replace BB := hide (below_y (uh BB) hb); clear hb; go_wp2_with fail
              refine hK.out _ _ (⟨(uh K2).cell 0 rfl, (uh K2).cell 1 rfl, (uh K1).cell 0 rfl, (uh A).cell 0 rfl, (uh A).cell 1 rfl, (uh A).cell 2 rfl, (uh A).cell 3 rfl, (uh A).cell 4 rfl, (uh A).cell 5 rfl, (uh A).cell 6 rfl, (uh A).cell 7 rfl⟩) (fun hHeld2 => ?_)
              clear hK K hHeld; have hHeld := hHeld2; clear hHeld2
              try simp only [Act.put, p1, p2, p3]
              refine tv 31 38 ?_
              refine wpAnyH_ready (rs := [34]) (by kernel_rfl) (by simp) ?_
              refine (AllReadyH.cons rfl (fun K hK => ?_) AllReadyH.nil)
              go_simp
              refine (shortS e.text _ (by have := (uh EF).text; omega)).mono ?_
              rintro x ws10 ⟨rfl, hb⟩
              replace A := hide ((uh A).ups hb); replace K1 := hide ((uh K1).ups hb); replace K2 := hide ((uh K2).ups hb); replace RS := hide ((uh RS).up hb); have sz11 := hide (hb.size); replace BB := hide (below_y (uh BB) hb); clear hb; go_wp2_with fail
              refine hK.out _ _ (⟨(uh K2).cell 0 rfl, (uh K2).cell 1 rfl, (uh K1).cell 0 rfl, (uh A).cell 0 rfl, (uh A).cell 1 rfl, (uh A).cell 2 rfl, (uh A).cell 3 rfl, (uh A).cell 4 rfl, (uh A).cell 5 rfl, (uh A).cell 6 rfl, (uh A).cell 7 rfl⟩) (fun hHeld2 => ?_)
              clear hK K hHeld; have hHeld := hHeld2; clear hHeld2
              try simp only [Act.put, p1, p2, p3]
              refine tv 35 42 ?_; refine tv 36 2 ?_; refine tv 37 3 ?_
              refine wpAnyH_done (by kernel_rfl) ?_ _
              go_wp2
              go_ret2
              rw [uh ANS]
              exact ⟨rfl, uh BB⟩
            ·as_aux_lemma =>
              go_simp
              refine (varS (e.since + 1) _ (by have := (uh EF).since; omega) (by have := (uh EF).since; omega)).mono ?_
              rintro x ws8 ⟨rfl, hb⟩
              replace A := hide ((uh A).ups hb); replace K1 := hide ((uh K1).ups hb); replace RS := hide ((uh RS).up hb); have sz9 := hide (hb.size); replace BB := hide (below_y (uh BB) hb); clear hb; go_wp2_with fail
              refine hK.out _ _ (⟨(uh K1).cell 0 rfl, (uh A).cell 0 rfl, (uh A).cell 1 rfl, (uh A).cell 2 rfl, (uh A).cell 3 rfl, (uh A).cell 4 rfl, (uh A).cell 5 rfl, (uh A).cell 6 rfl, (uh A).cell 7 rfl⟩) (fun hHeld2 => ?_)
              clear hK K hHeld; have hHeld := hHeld2; clear hHeld2
              try simp only [Act.put, p1, p2, p3]
              refine wpAnyH_ready (rs := [24, 34]) (by kernel_rfl) (by simp) ?_
              refine (AllReadyH.cons rfl (fun K hK => ?_) (AllReadyH.cons rfl (fun K hK => ?_) AllReadyH.nil))
              ·as_aux_lemma =>
                go_simp
                obtain ⟨ws9, hX⟩ : ∃ X, X = (ws8.alloc (.cells ([.int .u8 e.how, .int .u8 e.bits] : List Value).toArray 5)) := ⟨_, rfl⟩
                rw [← hX]
                have K2x : HasObj ws9 ws8.heap.size 5 [.int .u8 e.how, .int .u8 e.bits] := by rw [hX]; exact HasObj.new _ _ _
                have hbn : Below ws8.heap.size ws8 ws9 := by rw [hX]; exact (Below.refl ws8.heap.size ws8).alloc (Nat.le_refl _) _
                clear hX; replace A := hide ((uh A).ups hbn); replace K1 := hide ((uh K1).ups hbn); replace RS := hide ((uh RS).up hbn); have sz10 := hide (hbn.size); replace BB := hide (below_y (uh BB) hbn); clear hbn; have K2 := hide K2x; clear K2x
                refine hK.out _ _ (⟨(uh K1).cell 0 rfl, (uh A).cell 0 rfl, (uh A).cell 1 rfl, (uh A).cell 2 rfl, (uh A).cell 3 rfl, (uh A).cell 4 rfl, (uh A).cell 5 rfl, (uh A).cell 6 rfl, (uh A).cell 7 rfl⟩) (fun hHeld2 => ?_)
                clear hK K hHeld; have hHeld := hHeld2; clear hHeld2
                try simp only [Act.put, p1, p2, p3]
                refine heldMore (fun w' => w'.cell? ⟨ws8.heap.size, 1, none⟩ = some (.int .u8 e.bits)) ((uh K2).cell 1 rfl) hHeld (fun hHeld2 => ?_)
                clear hHeld; have hHeld := hHeld2; clear hHeld2
                refine heldMore (fun w' => w'.cell? ⟨ws8.heap.size, 0, none⟩ = some (.int .u8 e.how)) ((uh K2).cell 0 rfl) hHeld (fun hHeld2 => ?_)
                clear hHeld; have hHeld := hHeld2; clear hHeld2; have K2v := CV2 (ws8.heap.size)
                refine tv 25 32 ?_
                clear K2v
                refine tv 26 33 ?_; refine tv 31 38 ?_
                refine wpAnyH_ready (rs := [34]) (by kernel_rfl) (by simp) ?_
                refine (AllReadyH.cons rfl (fun K hK => ?_) AllReadyH.nil)
                go_simp
                refine (shortS e.text _ (by have := (uh EF).text; omega)).mono ?_
                rintro x ws10 ⟨rfl, hb⟩
                replace A := hide ((uh A).ups hb); replace K1 := hide ((uh K1).ups hb); replace K2 := hide ((uh K2).ups hb); replace RS := hide ((uh RS).up hb); have sz11 := hide (hb.size); replace BB := hide (below_y (uh BB) hb); clear hb; go_wp2_with fail
                refine hK.out _ _ (⟨(uh K2).cell 0 rfl, (uh K2).cell 1 rfl, (uh K1).cell 0 rfl, (uh A).cell 0 rfl, (uh A).cell 1 rfl, (uh A).cell 2 rfl, (uh A).cell 3 rfl, (uh A).cell 4 rfl, (uh A).cell 5 rfl, (uh A).cell 6 rfl, (uh A).cell 7 rfl⟩) (fun hHeld2 => ?_)
                clear hK K hHeld; have hHeld := hHeld2; clear hHeld2
                try simp only [Act.put, p1, p2, p3]
                refine tv 35 42 ?_; refine tv 36 2 ?_; refine tv 37 3 ?_
                refine wpAnyH_done (by kernel_rfl) ?_ _
                go_wp2
                go_ret2
                rw [uh ANS]
                exact ⟨rfl, uh BB⟩
              ·as_aux_lemma =>
                go_simp
                refine (shortS e.text _ (by have := (uh EF).text; omega)).mono ?_
                rintro x ws9 ⟨rfl, hb⟩
                replace A := hide ((uh A).ups hb); replace K1 := hide ((uh K1).ups hb); replace RS := hide ((uh RS).up hb); have sz10 := hide (hb.size); replace BB := hide (below_y (uh BB) hb); clear hb; go_wp2_with fail
                refine hK.out _ _ (⟨(uh K1).cell 0 rfl, (uh A).cell 0 rfl, (uh A).cell 1 rfl, (uh A).cell 2 rfl, (uh A).cell 3 rfl, (uh A).cell 4 rfl, (uh A).cell 5 rfl, (uh A).cell 6 rfl, (uh A).cell 7 rfl⟩) (fun hHeld2 => ?_)
                clear hK K hHeld; have hHeld := hHeld2; clear hHeld2
                try simp only [Act.put, p1, p2, p3]
                refine wpAnyH_ready (rs := [24]) (by kernel_rfl) (by simp) ?_
                refine (AllReadyH.cons rfl (fun K hK => ?_) AllReadyH.nil)
                go_simp
                obtain ⟨ws10, hX⟩ : ∃ X, X = (ws9.alloc (.cells ([.int .u8 e.how, .int .u8 e.bits] : List Value).toArray 5)) := ⟨_, rfl⟩
                rw [← hX]
                have K2x : HasObj ws10 ws9.heap.size 5 [.int .u8 e.how, .int .u8 e.bits] := by rw [hX]; exact HasObj.new _ _ _
                have hbn : Below ws9.heap.size ws9 ws10 := by rw [hX]; exact (Below.refl ws9.heap.size ws9).alloc (Nat.le_refl _) _
                clear hX; replace A := hide ((uh A).ups hbn); replace K1 := hide ((uh K1).ups hbn); replace RS := hide ((uh RS).up hbn); have sz11 := hide (hbn.size); replace BB := hide (below_y (uh BB) hbn); clear hbn; have K2 := hide K2x; clear K2x
                refine hK.out _ _ (⟨(uh K1).cell 0 rfl, (uh A).cell 0 rfl, (uh A).cell 1 rfl, (uh A).cell 2 rfl, (uh A).cell 3 rfl, (uh A).cell 4 rfl, (uh A).cell 5 rfl, (uh A).cell 6 rfl, (uh A).cell 7 rfl⟩) (fun hHeld2 => ?_)
                clear hK K hHeld; have hHeld := hHeld2; clear hHeld2
                try simp only [Act.put, p1, p2, p3]
                refine heldMore (fun w' => w'.cell? ⟨ws9.heap.size, 1, none⟩ = some (.int .u8 e.bits)) ((uh K2).cell 1 rfl) hHeld (fun hHeld2 => ?_)
                clear hHeld; have hHeld := hHeld2; clear hHeld2
                refine heldMore (fun w' => w'.cell? ⟨ws9.heap.size, 0, none⟩ = some (.int .u8 e.how)) ((uh K2).cell 0 rfl) hHeld (fun hHeld2 => ?_)
                clear hHeld; have hHeld := hHeld2; clear hHeld2; have K2v := CV2 (ws9.heap.size)
                refine tv 25 32 ?_
                clear K2v
                refine tv 26 33 ?_; refine tv 31 38 ?_; refine tv 35 42 ?_; refine tv 36 2 ?_; refine tv 37 3 ?_
                refine wpAnyH_done (by kernel_rfl) ?_ _
                go_wp2
                go_ret2
                rw [uh ANS]
                exact ⟨rfl, uh BB⟩
          ·as_aux_lemma =>
            go_simp
            obtain ⟨ws7, hX⟩ : ∃ X, X = (ws6.alloc (.cells ([.int .u8 e.how, .int .u8 e.bits] : List Value).toArray 5)) := ⟨_, rfl⟩
            rw [← hX]
            have K2x : HasObj ws7 ws6.heap.size 5 [.int .u8 e.how, .int .u8 e.bits] := by rw [hX]; exact HasObj.new _ _ _
            have hbn : Below ws6.heap.size ws6 ws7 := by rw [hX]; exact (Below.refl ws6.heap.size ws6).alloc (Nat.le_refl _) _
            clear hX; replace A := hide ((uh A).ups hbn); replace K1 := hide ((uh K1).ups hbn); replace RS := hide ((uh RS).up hbn); have sz8 := hide (hbn.size); replace BB := hide (below_y (uh BB) hbn); clear hbn; have K2 := hide K2x; clear K2x
            refine hK.out _ _ (⟨(uh K1).cell 0 rfl, (uh A).cell 0 rfl, (uh A).cell 1 rfl, (uh A).cell 2 rfl, (uh A).cell 3 rfl, (uh A).cell 4 rfl, (uh A).cell 5 rfl, (uh A).cell 6 rfl, (uh A).cell 7 rfl⟩) (fun hHeld2 => ?_)
            clear hK K hHeld; have hHeld := hHeld2; clear hHeld2
            try simp only [Act.put, p1, p2, p3]
            refine heldMore (fun w' => w'.cell? ⟨ws6.heap.size, 1, none⟩ = some (.int .u8 e.bits)) ((uh K2).cell 1 rfl) hHeld (fun hHeld2 => ?_)
            clear hHeld; have hHeld := hHeld2; clear hHeld2
            refine heldMore (fun w' => w'.cell? ⟨ws6.heap.size, 0, none⟩ = some (.int .u8 e.how)) ((uh K2).cell 0 rfl) hHeld (fun hHeld2 => ?_)
            clear hHeld; have hHeld := hHeld2; clear hHeld2; have K2v := CV2 (ws6.heap.size)
            refine tv 25 32 ?_
            clear K2v
            refine wpAnyH_ready (rs := [16]) (by kernel_rfl) (by simp) ?_
            refine (AllReadyH.cons rfl (fun K hK => ?_) AllReadyH.nil)
            go_simp
            refine (shortS (stB e.set) _ (by have := st_size e.set; omega)).mono ?_
            rintro x ws8 ⟨rfl, hb⟩
            replace A := hide ((uh A).ups hb); replace K1 := hide ((uh K1).ups hb); replace K2 := hide ((uh K2).ups hb); replace RS := hide ((uh RS).up hb); have sz9 := hide (hb.size); replace BB := hide (below_y (uh BB) hb); clear hb; go_wp2_with fail
            refine hK.out _ _ (⟨(uh K2).cell 0 rfl, (uh K2).cell 1 rfl, (uh K1).cell 0 rfl, (uh A).cell 0 rfl, (uh A).cell 1 rfl, (uh A).cell 2 rfl, (uh A).cell 3 rfl, (uh A).cell 4 rfl, (uh A).cell 5 rfl, (uh A).cell 6 rfl, (uh A).cell 7 rfl⟩) (fun hHeld2 => ?_)
            clear hK K hHeld; have hHeld := hHeld2; clear hHeld2
            try simp only [Act.put, p1, p2, p3]
            refine tv 17 24 ?_; refine tv 26 33 ?_
            refine wpAnyH_ready (rs := [30]) (by kernel_rfl) (by simp) ?_
            refine (AllReadyH.cons rfl (fun K hK => ?_) AllReadyH.nil)
            go_simp
            refine (varS (e.since + 1) _ (by have := (uh EF).since; omega) (by have := (uh EF).since; omega)).mono ?_
            rintro x ws9 ⟨rfl, hb⟩
            replace A := hide ((uh A).ups hb); replace K1 := hide ((uh K1).ups hb); replace K2 := hide ((uh K2).ups hb); replace RS := hide ((uh RS).up hb); have sz10 := hide (hb.size); replace BB := hide (below_y (uh BB) hb); clear hb; go_wp2_with fail
            refine hK.out _ _ (⟨(uh K2).cell 0 rfl, (uh K2).cell 1 rfl, (uh K1).cell 0 rfl, (uh A).cell 0 rfl, (uh A).cell 1 rfl, (uh A).cell 2 rfl, (uh A).cell 3 rfl, (uh A).cell 4 rfl, (uh A).cell 5 rfl, (uh A).cell 6 rfl, (uh A).cell 7 rfl⟩) (fun hHeld2 => ?_)
            clear hK K hHeld; have hHeld := hHeld2; clear hHeld2
            try simp only [Act.put, p1, p2, p3]
            refine tv 31 38 ?_
            refine wpAnyH_ready (rs := [34]) (by kernel_rfl) (by simp) ?_
            refine (AllReadyH.cons rfl (fun K hK => ?_) AllReadyH.nil)
            go_simp
            refine (shortS e.text _ (by have := (uh EF).text; omega)).mono ?_
            rintro x ws10 ⟨rfl, hb⟩
            replace A := hide ((uh A).ups hb); replace K1 := hide ((uh K1).ups hb); replace K2 := hide ((uh K2).ups hb); replace RS := hide ((uh RS).up hb); have sz11 := hide (hb.size); replace BB := hide (below_y (uh BB) hb); clear hb; go_wp2_with fail
            refine hK.out _ _ (⟨(uh K2).cell 0 rfl, (uh K2).cell 1 rfl, (uh K1).cell 0 rfl, (uh A).cell 0 rfl, (uh A).cell 1 rfl, (uh A).cell 2 rfl, (uh A).cell 3 rfl, (uh A).cell 4 rfl, (uh A).cell 5 rfl, (uh A).cell 6 rfl, (uh A).cell 7 rfl⟩) (fun hHeld2 => ?_)
            clear hK K hHeld; have hHeld := hHeld2; clear hHeld2
            try simp only [Act.put, p1, p2, p3]
            refine tv 35 42 ?_; refine tv 36 2 ?_; refine tv 37 3 ?_
            refine wpAnyH_done (by kernel_rfl) ?_ _
            go_wp2
            go_ret2
            rw [uh ANS]
            exact ⟨rfl, uh BB⟩
        ·as_aux_lemma =>
          go_simp
          obtain ⟨ws6, hX⟩ : ∃ X, X = (ws5.alloc (.cells ([.int .u8 e.how, .int .u8 e.bits] : List Value).toArray 5)) := ⟨_, rfl⟩
          rw [← hX]
          have K2x : HasObj ws6 ws5.heap.size 5 [.int .u8 e.how, .int .u8 e.bits] := by rw [hX]; exact HasObj.new _ _ _
          have hbn : Below ws5.heap.size ws5 ws6 := by rw [hX]; exact (Below.refl ws5.heap.size ws5).alloc (Nat.le_refl _) _
          clear hX; replace A := hide ((uh A).ups hbn); replace K1 := hide ((uh K1).ups hbn); replace RS := hide ((uh RS).up hbn); have sz7 := hide (hbn.size); replace BB := hide (below_y (uh BB) hbn); clear hbn; have K2 := hide K2x; clear K2x
          refine hK.out _ _ (⟨(uh K1).cell 0 rfl, (uh A).cell 0 rfl, (uh A).cell 1 rfl, (uh A).cell 2 rfl, (uh A).cell 3 rfl, (uh A).cell 4 rfl, (uh A).cell 5 rfl, (uh A).cell 6 rfl, (uh A).cell 7 rfl⟩) (fun hHeld2 => ?_)
          clear hK K hHeld; have hHeld := hHeld2; clear hHeld2
          try simp only [Act.put, p1, p2, p3]
          refine heldMore (fun w' => w'.cell? ⟨ws5.heap.size, 1, none⟩ = some (.int .u8 e.bits)) ((uh K2).cell 1 rfl) hHeld (fun hHeld2 => ?_)
          clear hHeld; have hHeld := hHeld2; clear hHeld2
          refine heldMore (fun w' => w'.cell? ⟨ws5.heap.size, 0, none⟩ = some (.int .u8 e.how)) ((uh K2).cell 0 rfl) hHeld (fun hHeld2 => ?_)
          clear hHeld; have hHeld := hHeld2; clear hHeld2; have K2v := CV2 (ws5.heap.size)
          refine tv 25 32 ?_
          clear K2v
          refine wpAnyH_ready (rs := [15]) (by kernel_rfl) (by simp) ?_
          refine (AllReadyH.cons rfl (fun K hK => ?_) AllReadyH.nil)
          go_simp
          refine (setS e.set _ _ _ (uh SM).set (uh RS)).mono ?_
          rintro x ws7 ⟨rfl, hb⟩
          replace A := hide ((uh A).ups hb); replace K1 := hide ((uh K1).ups hb); replace K2 := hide ((uh K2).ups hb); replace RS := hide ((uh RS).up hb); have sz8 := hide (hb.size); replace BB := hide (below_y (uh BB) hb); clear hb; go_wp2_with fail
          refine hK.out _ _ (⟨(uh K2).cell 0 rfl, (uh K2).cell 1 rfl, (uh K1).cell 0 rfl, (uh A).cell 0 rfl, (uh A).cell 1 rfl, (uh A).cell 2 rfl, (uh A).cell 3 rfl, (uh A).cell 4 rfl, (uh A).cell 5 rfl, (uh A).cell 6 rfl, (uh A).cell 7 rfl⟩) (fun hHeld2 => ?_)
          clear hK K hHeld; have hHeld := hHeld2; clear hHeld2
          try simp only [Act.put, p1, p2, p3]
          refine wpAnyH_ready (rs := [16]) (by kernel_rfl) (by simp) ?_
          refine (AllReadyH.cons rfl (fun K hK => ?_) AllReadyH.nil)
          go_simp
          refine (shortS (stB e.set) _ (by have := st_size e.set; omega)).mono ?_
          rintro x ws8 ⟨rfl, hb⟩
          replace A := hide ((uh A).ups hb); replace K1 := hide ((uh K1).ups hb); replace K2 := hide ((uh K2).ups hb); replace RS := hide ((uh RS).up hb); have sz9 := hide (hb.size); replace BB := hide (below_y (uh BB) hb); clear hb; go_wp2_with fail
          refine hK.out _ _ (⟨(uh K2).cell 0 rfl, (uh K2).cell 1 rfl, (uh K1).cell 0 rfl, (uh A).cell 0 rfl, (uh A).cell 1 rfl, (uh A).cell 2 rfl, (uh A).cell 3 rfl, (uh A).cell 4 rfl, (uh A).cell 5 rfl, (uh A).cell 6 rfl, (uh A).cell 7 rfl⟩) (fun hHeld2 => ?_)
          clear hK K hHeld; have hHeld := hHeld2; clear hHeld2
          try simp only [Act.put, p1, p2, p3]
          refine tv 17 24 ?_; refine tv 26 33 ?_
          refine wpAnyH_ready (rs := [30]) (by kernel_rfl) (by simp) ?_
          refine (AllReadyH.cons rfl (fun K hK => ?_) AllReadyH.nil)
          go_simp
          refine (varS (e.since + 1) _ (by have := (uh EF).since; omega) (by have := (uh EF).since; omega)).mono ?_
          rintro x ws9 ⟨rfl, hb⟩
          replace A := hide ((uh A).ups hb); replace K1 := hide ((uh K1).ups hb); replace K2 := hide ((uh K2).ups hb); replace RS := hide ((uh RS).up hb); have sz10 := hide (hb.size); replace BB := hide (below_y (uh BB) hb); clear hb; go_wp2_with fail
          refine hK.out _ _ (⟨(uh K2).cell 0 rfl, (uh K2).cell 1 rfl, (uh K1).cell 0 rfl, (uh A).cell 0 rfl, (uh A).cell 1 rfl, (uh A).cell 2 rfl, (uh A).cell 3 rfl, (uh A).cell 4 rfl, (uh A).cell 5 rfl, (uh A).cell 6 rfl, (uh A).cell 7 rfl⟩) (fun hHeld2 => ?_)
          clear hK K hHeld; have hHeld := hHeld2; clear hHeld2
          try simp only [Act.put, p1, p2, p3]
          refine tv 31 38 ?_
          refine wpAnyH_ready (rs := [34]) (by kernel_rfl) (by simp) ?_
          refine (AllReadyH.cons rfl (fun K hK => ?_) AllReadyH.nil)
          go_simp
          refine (shortS e.text _ (by have := (uh EF).text; omega)).mono ?_
          rintro x ws10 ⟨rfl, hb⟩
          replace A := hide ((uh A).ups hb); replace K1 := hide ((uh K1).ups hb); replace K2 := hide ((uh K2).ups hb); replace RS := hide ((uh RS).up hb); have sz11 := hide (hb.size); replace BB := hide (below_y (uh BB) hb); clear hb; go_wp2_with fail
          refine hK.out _ _ (⟨(uh K2).cell 0 rfl, (uh K2).cell 1 rfl, (uh K1).cell 0 rfl, (uh A).cell 0 rfl, (uh A).cell 1 rfl, (uh A).cell 2 rfl, (uh A).cell 3 rfl, (uh A).cell 4 rfl, (uh A).cell 5 rfl, (uh A).cell 6 rfl, (uh A).cell 7 rfl⟩) (fun hHeld2 => ?_)
          clear hK K hHeld; have hHeld := hHeld2; clear hHeld2
          try simp only [Act.put, p1, p2, p3]
          refine tv 35 42 ?_; refine tv 36 2 ?_; refine tv 37 3 ?_
          refine wpAnyH_done (by kernel_rfl) ?_ _
          go_wp2
          go_ret2
          rw [uh ANS]
          exact ⟨rfl, uh BB⟩
      ·as_aux_lemma =>
        go_simp
        refine (setS e.set _ _ _ (uh SM).set (uh RS)).mono ?_
        rintro x ws5 ⟨rfl, hb⟩
        replace A := hide ((uh A).ups hb); replace RS := hide ((uh RS).up hb); have sz6 := hide (hb.size); replace BB := hide (below_y (uh BB) hb); clear hb; go_wp2_with fail
        refine hK.out _ _ (⟨(uh A).cell 0 rfl, (uh A).cell 1 rfl, (uh A).cell 2 rfl, (uh A).cell 3 rfl, (uh A).cell 4 rfl, (uh A).cell 5 rfl, (uh A).cell 6 rfl, (uh A).cell 7 rfl⟩) (fun hHeld2 => ?_)
        clear hK K hHeld; have hHeld := hHeld2; clear hHeld2
        try simp only [Act.put, p1, p2, p3]
        refine wpAnyH_ready (rs := [3, 16, 24]) (by kernel_rfl) (by simp) ?_
        refine (AllReadyH.cons rfl (fun K hK => ?_) (AllReadyH.cons rfl (fun K hK => ?_) (AllReadyH.cons rfl (fun K hK => ?_) AllReadyH.nil)))
        ·as_aux_lemma =>
          go_simp
          obtain ⟨ws6, hX⟩ : ∃ X, X = (ws5.alloc (.cells ([.int .u8 e.kind] : List Value).toArray 5)) := ⟨_, rfl⟩
          rw [← hX]
          have K1x : HasObj ws6 ws5.heap.size 5 [.int .u8 e.kind] := by rw [hX]; exact HasObj.new _ _ _
          have hbn : Below ws5.heap.size ws5 ws6 := by rw [hX]; exact (Below.refl ws5.heap.size ws5).alloc (Nat.le_refl _) _
          clear hX; replace A := hide ((uh A).ups hbn); replace RS := hide ((uh RS).up hbn); have sz7 := hide (hbn.size); replace BB := hide (below_y (uh BB) hbn); clear hbn; have K1 := hide K1x; clear K1x
          refine hK.out _ _ (⟨(uh A).cell 0 rfl, (uh A).cell 1 rfl, (uh A).cell 2 rfl, (uh A).cell 3 rfl, (uh A).cell 4 rfl, (uh A).cell 5 rfl, (uh A).cell 6 rfl, (uh A).cell 7 rfl⟩) (fun hHeld2 => ?_)
          clear hK K hHeld; have hHeld := hHeld2; clear hHeld2
          try simp only [Act.put, p1, p2, p3]
          refine heldMore (fun w' => w'.cell? ⟨ws5.heap.size, 0, none⟩ = some (.int .u8 e.kind)) ((uh K1).cell 0 rfl) hHeld (fun hHeld2 => ?_)
          clear hHeld; have hHeld := hHeld2; clear hHeld2; have K1v := CV1 (ws5.heap.size)
          refine tv 4 11 ?_
          clear K1v
          refine tv 8 15 ?_; refine tv 12 19 ?_
          refine wpAnyH_ready (rs := [16, 24]) (by kernel_rfl) (by simp) ?_
          refine (AllReadyH.cons rfl (fun K hK => ?_) (AllReadyH.cons rfl (fun K hK => ?_) AllReadyH.nil))
          ·as_aux_lemma =>
            go_simp
            refine (shortS (stB e.set) _ (by have := st_size e.set; omega)).mono ?_
            rintro x ws7 ⟨rfl, hb⟩
            replace A := hide ((uh A).ups hb); replace K1 := hide ((uh K1).ups hb); replace RS := hide ((uh RS).up hb); have sz8 := hide (hb.size); replace BB := hide (below_y (uh BB) hb); clear hb; go_wp2_with fail
            refine hK.out _ _ (⟨(uh K1).cell 0 rfl, (uh A).cell 0 rfl, (uh A).cell 1 rfl, (uh A).cell 2 rfl, (uh A).cell 3 rfl, (uh A).cell 4 rfl, (uh A).cell 5 rfl, (uh A).cell 6 rfl, (uh A).cell 7 rfl⟩) (fun hHeld2 => ?_)
            clear hK K hHeld; have hHeld := hHeld2; clear hHeld2
            try simp only [Act.put, p1, p2, p3]
            refine tv 17 24 ?_
            refine wpAnyH_ready (rs := [24, 30]) (by kernel_rfl) (by simp) ?_
            refine (AllReadyH.cons rfl (fun K hK => ?_) (AllReadyH.cons rfl (fun K hK => ?_) AllReadyH.nil))
            ·as_aux_lemma =>
              go_simp
              obtain ⟨ws8, hX⟩ : ∃ X, X = (ws7.alloc (.cells ([.int .u8 e.how, .int .u8 e.bits] : List Value).toArray 5)) := ⟨_, rfl⟩
              rw [← hX]
              have K2x : HasObj ws8 ws7.heap.size 5 [.int .u8 e.how, .int .u8 e.bits] := by rw [hX]; exact HasObj.new _ _ _
              have hbn : Below ws7.heap.size ws7 ws8 := by rw [hX]; exact (Below.refl ws7.heap.size ws7).alloc (Nat.le_refl _) _
              clear hX; replace A := hide ((uh A).ups hbn); replace K1 := hide ((uh K1).ups hbn); replace RS := hide ((uh RS).up hbn); have sz9 := hide (hbn.size); replace BB := hide (below_y (uh BB) hbn); clear hbn; have K2 := hide K2x; clear K2x
              refine hK.out _ _ (⟨(uh K1).cell 0 rfl, (uh A).cell 0 rfl, (uh A).cell 1 rfl, (uh A).cell 2 rfl, (uh A).cell 3 rfl, (uh A).cell 4 rfl, (uh A).cell 5 rfl, (uh A).cell 6 rfl, (uh A).cell 7 rfl⟩) (fun hHeld2 => ?_)
              clear hK K hHeld; have hHeld := hHeld2; clear hHeld2
              try simp only [Act.put, p1, p2, p3]
              refine heldMore (fun w' => w'.cell? ⟨ws7.heap.size, 1, none⟩ = some (.int .u8 e.bits)) ((uh K2).cell 1 rfl) hHeld (fun hHeld2 => ?_)
              clear hHeld; have hHeld := hHeld2; clear hHeld2
              refine heldMore (fun w' => w'.cell? ⟨ws7.heap.size, 0, none⟩ = some (.int .u8 e.how)) ((uh K2).cell 0 rfl) hHeld (fun hHeld2 => ?_)
              clear hHeld; have hHeld := hHeld2; clear hHeld2; have K2v := CV2 (ws7.heap.size)
              refine tv 25 32 ?_
              clear K2v
              refine tv 26 33 ?_
              refine wpAnyH_ready (rs := [30]) (by kernel_rfl) (by simp) ?_
              refine (AllReadyH.cons rfl (fun K hK => ?_) AllReadyH.nil)
              go_simp
              refine (varS (e.since + 1) _ (by have := (uh EF).since; omega) (by have := (uh EF).since; omega)).mono ?_
              rintro x ws9 ⟨rfl, hb⟩
              replace A := hide ((uh A).ups hb); replace K1 := hide ((uh K1).ups hb); replace K2 := hide ((uh K2).ups hb); replace RS := hide ((uh RS).up hb); have sz10 := hide (hb.size); replace BB := hide (below_y (uh BB) hb); clear hb; go_wp2_with fail
              refine hK.out _ _ (⟨(uh K2).cell 0 rfl, (uh K2).cell 1 rfl, (uh K1).cell 0 rfl, (uh A).cell 0 rfl, (uh A).cell 1 rfl, (uh A).cell 2 rfl, (uh A).cell 3 rfl, (uh A).cell 4 rfl, (uh A).cell 5 rfl, (uh A).cell 6 rfl, (uh A).cell 7 rfl⟩) (fun hHeld2 => ?_)
              clear hK K hHeld; have hHeld := hHeld2; clear hHeld2
              try simp only [Act.put, p1, p2, p3]
              refine tv 31 38 ?_
              refine wpAnyH_ready (rs := [34]) (by kernel_rfl) (by simp) ?_
              refine (AllReadyH.cons rfl (fun K hK => ?_) AllReadyH.nil)
              go_simp
              refine (shortS e.text _ (by have := (uh EF).text; omega)).mono ?_
              rintro x ws10 ⟨rfl, hb⟩
              replace A := hide ((uh A).ups hb); replace K1 := hide ((uh K1).ups hb); replace K2 := hide ((uh K2).ups hb); replace RS := hide ((uh RS).up hb); have sz11 := hide (hb.size); replace BB := hide (below_y (uh BB) hb); clear hb; go_wp2_with fail
              refine hK.out _ _ (⟨(uh K2).cell 0 rfl, (uh K2).cell 1 rfl, (uh K1).cell 0 rfl, (uh A).cell 0 rfl, (uh A).cell 1 rfl, (uh A).cell 2 rfl, (uh A).cell 3 rfl, (uh A).cell 4 rfl, (uh A).cell 5 rfl, (uh A).cell 6 rfl, (uh A).cell 7 rfl⟩) (fun hHeld2 => ?_)
              clear hK K hHeld; have hHeld := hHeld2; clear hHeld2
              try simp only [Act.put, p1, p2, p3]
              refine tv 35 42 ?_; refine tv 36 2 ?_; refine tv 37 3 ?_
              refine wpAnyH_done (by kernel_rfl) ?_ _
              go_wp2
              go_ret2
              rw [uh ANS]
              exact ⟨rfl, uh BB⟩
            ·as_aux_lemma =>
              go_simp
              refine (varS (e.since + 1) _ (by have := (uh EF).since; omega) (by have := (uh EF).since; omega)).mono ?_
              rintro x ws8 ⟨rfl, hb⟩
              replace A := hide ((uh A).ups hb); replace K1 := hide ((uh K1).ups hb); replace RS := hide ((uh RS).up hb); have sz9 := hide (hb.size); replace BB := hide (below_y (uh BB) hb); clear hb; go_wp2_with fail
              refine hK.out _ _ (⟨(uh K1).cell 0 rfl, (uh A).cell 0 rfl, (uh A).cell 1 rfl, (uh A).cell 2 rfl, (uh A).cell 3 rfl, (uh A).cell 4 rfl, (uh A).cell 5 rfl, (uh A).cell 6 rfl, (uh A).cell 7 rfl⟩) (fun hHeld2 => ?_)
              clear hK K hHeld; have hHeld := hHeld2; clear hHeld2
              try simp only [Act.put, p1, p2, p3]
              refine wpAnyH_ready (rs := [24, 34]) (by kernel_rfl) (by simp) ?_
              refine (AllReadyH.cons rfl (fun K hK => ?_) (AllReadyH.cons rfl (fun K hK => ?_) AllReadyH.nil))
              ·as_aux_lemma =>
                go_simp
                obtain ⟨ws9, hX⟩ : ∃ X, X = (ws8.alloc (.cells ([.int .u8 e.how, .int .u8 e.bits] : List Value).toArray 5)) := ⟨_, rfl⟩
                rw [← hX]
                have K2x : HasObj ws9 ws8.heap.size 5 [.int .u8 e.how, .int .u8 e.bits] := by rw [hX]; exact HasObj.new _ _ _
                have hbn : Below ws8.heap.size ws8 ws9 := by rw [hX]; exact (Below.refl ws8.heap.size ws8).alloc (Nat.le_refl _) _
                clear hX; replace A := hide ((uh A).ups hbn); replace K1 := hide ((uh K1).ups hbn); replace RS := hide ((uh RS).up hbn); have sz10 := hide (hbn.size); replace BB := hide (below_y (uh BB) hbn); clear hbn; have K2 := hide K2x; clear K2x
                refine hK.out _ _ (⟨(uh K1).cell 0 rfl, (uh A).cell 0 rfl, (uh A).cell 1 rfl, (uh A).cell 2 rfl, (uh A).cell 3 rfl, (uh A).cell 4 rfl, (uh A).cell 5 rfl, (uh A).cell 6 rfl, (uh A).cell 7 rfl⟩) (fun hHeld2 => ?_)
                clear hK K hHeld; have hHeld := hHeld2; clear hHeld2
                try simp only [Act.put, p1, p2, p3]
                refine heldMore (fun w' => w'.cell? ⟨ws8.heap.size, 1, none⟩ = some (.int .u8 e.bits)) ((uh K2).cell 1 rfl) hHeld (fun hHeld2 => ?_)
                clear hHeld; have hHeld := hHeld2; clear hHeld2
                refine heldMore (fun w' => w'.cell? ⟨ws8.heap.size, 0, none⟩ = some (.int .u8 e.how)) ((uh K2).cell 0 rfl) hHeld (fun hHeld2 => ?_)
                clear hHeld; have hHeld := hHeld2; clear hHeld2; have K2v := CV2 (ws8.heap.size)
                refine tv 25 32 ?_
                clear K2v
                refine tv 26 33 ?_; refine tv 31 38 ?_
                refine wpAnyH_ready (rs := [34]) (by kernel_rfl) (by simp) ?_
                refine (AllReadyH.cons rfl (fun K hK => ?_) AllReadyH.nil)
                go_simp
                refine (shortS e.text _ (by have := (uh EF).text; omega)).mono ?_
                rintro x ws10 ⟨rfl, hb⟩
                replace A := hide ((uh A).ups hb); replace K1 := hide ((uh K1).ups hb); replace K2 := hide ((uh K2).ups hb); replace RS := hide ((uh RS).up hb); have sz11 := hide (hb.size); replace BB := hide (below_y (uh BB) hb); clear hb; go_wp2_with fail
                refine hK.out _ _ (⟨(uh K2).cell 0 rfl, (uh K2).cell 1 rfl, (uh K1).cell 0 rfl, (uh A).cell 0 rfl, (uh A).cell 1 rfl, (uh A).cell 2 rfl, (uh A).cell 3 rfl, (uh A).cell 4 rfl, (uh A).cell 5 rfl, (uh A).cell 6 rfl, (uh A).cell 7 rfl⟩) (fun hHeld2 => ?_)
                clear hK K hHeld; have hHeld := hHeld2; clear hHeld2
                try simp only [Act.put, p1, p2, p3]
                refine tv 35 42 ?_; refine tv 36 2 ?_; refine tv 37 3 ?_
                refine wpAnyH_done (by kernel_rfl) ?_ _
                go_wp2
                go_ret2
                rw [uh ANS]
                exact ⟨rfl, uh BB⟩
              ·as_aux_lemma =>
                go_simp
                refine (shortS e.text _ (by have := (uh EF).text; omega)).mono ?_
                rintro x ws9 ⟨rfl, hb⟩
                replace A := hide ((uh A).ups hb); replace K1 := hide ((uh K1).ups hb); replace RS := hide ((uh RS).up hb); have sz10 := hide (hb.size); replace BB := hide (below_y (uh BB) hb); clear hb; go_wp2_with fail
                refine hK.out _ _ (⟨(uh K1).cell 0 rfl, (uh A).cell 0 rfl, (uh A).cell 1 rfl, (uh A).cell 2 rfl, (uh A).cell 3 rfl, (uh A).cell 4 rfl, (uh A).cell 5 rfl, (uh A).cell 6 rfl, (uh A).cell 7 rfl⟩) (fun hHeld2 => ?_)
                clear hK K hHeld; have hHeld := hHeld2; clear hHeld2
                try simp only [Act.put, p1, p2, p3]
                refine wpAnyH_ready (rs := [24]) (by kernel_rfl) (by simp) ?_
                refine (AllReadyH.cons rfl (fun K hK => ?_) AllReadyH.nil)
                go_simp
                obtain ⟨ws10, hX⟩ : ∃ X, X = (ws9.alloc (.cells ([.int .u8 e.how, .int .u8 e.bits] : List Value).toArray 5)) := ⟨_, rfl⟩
                rw [← hX]
                have K2x : HasObj ws10 ws9.heap.size 5 [.int .u8 e.how, .int .u8 e.bits] := by rw [hX]; exact HasObj.new _ _ _
                have hbn : Below ws9.heap.size ws9 ws10 := by rw [hX]; exact (Below.refl ws9.heap.size ws9).alloc (Nat.le_refl _) _
                clear hX; replace A := hide ((uh A).ups hbn); replace K1 := hide ((uh K1).ups hbn); replace RS := hide ((uh RS).up hbn); have sz11 := hide (hbn.size); replace BB := hide (below_y (uh BB) hbn); clear hbn; have K2 := hide K2x; clear K2x
                refine hK.out _ _ (⟨(uh K1).cell 0 rfl, (uh A).cell 0 rfl, (uh A).cell 1 rfl, (uh A).cell 2 rfl, (uh A).cell 3 rfl, (uh A).cell 4 rfl, (uh A).cell 5 rfl, (uh A).cell 6 rfl, (uh A).cell 7 rfl⟩) (fun hHeld2 => ?_)
                clear hK K hHeld; have hHeld := hHeld2; clear hHeld2
                try simp only [Act.put, p1, p2, p3]
                refine heldMore (fun w' => w'.cell? ⟨ws9.heap.size, 1, none⟩ = some (.int .u8 e.bits)) ((uh K2).cell 1 rfl) hHeld (fun hHeld2 => ?_)
                clear hHeld; have hHeld := hHeld2; clear hHeld2
                refine heldMore (fun w' => w'.cell? ⟨ws9.heap.size, 0, none⟩ = some (.int .u8 e.how)) ((uh K2).cell 0 rfl) hHeld (fun hHeld2 => ?_)
                clear hHeld; have hHeld := hHeld2; clear hHeld2; have K2v := CV2 (ws9.heap.size)
                refine tv 25 32 ?_
                clear K2v
                refine tv 26 33 ?_; refine tv 31 38 ?_; refine tv 35 42 ?_; refine tv 36 2 ?_; refine tv 37 3 ?_
                refine wpAnyH_done (by kernel_rfl) ?_ _
                go_wp2
                go_ret2
                rw [uh ANS]
                exact ⟨rfl, uh BB⟩
          ·as_aux_lemma =>
            go_simp
            obtain ⟨ws7, hX⟩ : ∃ X, X = (ws6.alloc (.cells ([.int .u8 e.how, .int .u8 e.bits] : List Value).toArray 5)) := ⟨_, rfl⟩
            rw [← hX]
            have K2x : HasObj ws7 ws6.heap.size 5 [.int .u8 e.how, .int .u8 e.bits] := by rw [hX]; exact HasObj.new _ _ _
            have hbn : Below ws6.heap.size ws6 ws7 := by rw [hX]; exact (Below.refl ws6.heap.size ws6).alloc (Nat.le_refl _) _
            clear hX; replace A := hide ((uh A).ups hbn); replace K1 := hide ((uh K1).ups hbn); replace RS := hide ((uh RS).up hbn); have sz8 := hide (hbn.size); replace BB := hide (below_y (uh BB) hbn); clear hbn; have K2 := hide K2x; clear K2x
            refine hK.out _ _ (⟨(uh K1).cell 0 rfl, (uh A).cell 0 rfl, (uh A).cell 1 rfl, (uh A).cell 2 rfl, (uh A).cell 3 rfl, (uh A).cell 4 rfl, (uh A).cell 5 rfl, (uh A).cell 6 rfl, (uh A).cell 7 rfl⟩) (fun hHeld2 => ?_)
            clear hK K hHeld; have hHeld := hHeld2; clear hHeld2
            try simp only [Act.put, p1, p2, p3]
            refine heldMore (fun w' => w'.cell? ⟨ws6.heap.size, 1, none⟩ = some (.int .u8 e.bits)) ((uh K2).cell 1 rfl) hHeld (fun hHeld2 => ?_)
            clear hHeld; have hHeld := hHeld2; clear hHeld2
            refine heldMore (fun w' => w'.cell? ⟨ws6.heap.size, 0, none⟩ = some (.int .u8 e.how)) ((uh K2).cell 0 rfl) hHeld (fun hHeld2 => ?_)
            clear hHeld; have hHeld := hHeld2; clear hHeld2; have K2v := CV2 (ws6.heap.size)
            refine tv 25 32 ?_
            clear K2v
            refine wpAnyH_ready (rs := [16]) (by kernel_rfl) (by simp) ?_
            refine (AllReadyH.cons rfl (fun K hK => ?_) AllReadyH.nil)
            go_simp
            refine (shortS (stB e.set) _ (by have := st_size e.set; omega)).mono ?_
            rintro x ws8 ⟨rfl, hb⟩
            replace A := hide ((uh A).ups hb); replace K1 := hide ((uh K1).ups hb); replace K2 := hide ((uh K2).ups hb); replace RS := hide ((uh RS).up hb); have sz9 := hide (hb.size); replace BB := hide (below_y (uh BB) hb); clear hb; go_wp2_with fail
            refine hK.out _ _ (⟨(uh K2).cell 0 rfl, (uh K2).cell 1 rfl, (uh K1).cell 0 rfl, (uh A).cell 0 rfl, (uh A).cell 1 rfl, (uh A).cell 2 rfl, (uh A).cell 3 rfl, (uh A).cell 4 rfl, (uh A).cell 5 rfl, (uh A).cell 6 rfl, (uh A).cell 7 rfl⟩) (fun hHeld2 => ?_)
            clear hK K hHeld; have hHeld := hHeld2; clear hHeld2
            try simp only [Act.put, p1, p2, p3]
            refine tv 17 24 ?_; refine tv 26 33 ?_
            refine wpAnyH_ready (rs := [30]) (by kernel_rfl) (by simp) ?_
            refine (AllReadyH.cons rfl (fun K hK => ?_) AllReadyH.nil)
            go_simp
            refine (varS (e.since + 1) _ (by have := (uh EF).since; omega) (by have := (uh EF).since; omega)).mono ?_
            rintro x ws9 ⟨rfl, hb⟩
            replace A := hide ((uh A).ups hb); replace K1 := hide ((uh K1).ups hb); replace K2 := hide ((uh K2).ups hb); replace RS := hide ((uh RS).up hb); have sz10 := hide (hb.size); replace BB := hide (below_y (uh BB) hb); clear hb; go_wp2_with fail
            refine hK.out _ _ (⟨(uh K2).cell 0 rfl, (uh K2).cell 1 rfl, (uh K1).cell 0 rfl, (uh A).cell 0 rfl, (uh A).cell 1 rfl, (uh A).cell 2 rfl, (uh A).cell 3 rfl, (uh A).cell 4 rfl, (uh A).cell 5 rfl, (uh A).cell 6 rfl, (uh A).cell 7 rfl⟩) (fun hHeld2 => ?_)
            clear hK K hHeld; have hHeld := hHeld2; clear hHeld2
            try simp only [Act.put, p1, p2, p3]
            refine tv 31 38 ?_
            refine wpAnyH_ready (rs := [34]) (by kernel_rfl) (by simp) ?_
            refine (AllReadyH.cons rfl (fun K hK => ?_) AllReadyH.nil)
            go_simp
            refine (shortS e.text _ (by have := (uh EF).text; omega)).mono ?_
            rintro x ws10 ⟨rfl, hb⟩
            replace A := hide ((uh A).ups hb); replace K1 := hide ((uh K1).ups hb); replace K2 := hide ((uh K2).ups hb); replace RS := hide ((uh RS).up hb); have sz11 := hide (hb.size); replace BB := hide (below_y (uh BB) hb); clear hb; go_wp2_with fail
            refine hK.out _ _ (⟨(uh K2).cell 0 rfl, (uh K2).cell 1 rfl, (uh K1).cell 0 rfl, (uh A).cell 0 rfl, (uh A).cell 1 rfl, (uh A).cell 2 rfl, (uh A).cell 3 rfl, (uh A).cell 4 rfl, (uh A).cell 5 rfl, (uh A).cell 6 rfl, (uh A).cell 7 rfl⟩) (fun hHeld2 => ?_)
            clear hK K hHeld; have hHeld := hHeld2; clear hHeld2
            try simp only [Act.put, p1, p2, p3]
            refine tv 35 42 ?_; refine tv 36 2 ?_; refine tv 37 3 ?_
            refine wpAnyH_done (by kernel_rfl) ?_ _
            go_wp2
            go_ret2
            rw [uh ANS]
            exact ⟨rfl, uh BB⟩
        ·as_aux_lemma =>
          go_simp
          refine (shortS (stB e.set) _ (by have := st_size e.set; omega)).mono ?_
          rintro x ws6 ⟨rfl, hb⟩
          replace A := hide ((uh A).ups hb); replace RS := hide ((uh RS).up hb); have sz7 := hide (hb.size); replace BB := hide (below_y (uh BB) hb); clear hb; go_wp2_with fail
          refine hK.out _ _ (⟨(uh A).cell 0 rfl, (uh A).cell 1 rfl, (uh A).cell 2 rfl, (uh A).cell 3 rfl, (uh A).cell 4 rfl, (uh A).cell 5 rfl, (uh A).cell 6 rfl, (uh A).cell 7 rfl⟩) (fun hHeld2 => ?_)
          clear hK K hHeld; have hHeld := hHeld2; clear hHeld2
          try simp only [Act.put, p1, p2, p3]
          refine wpAnyH_ready (rs := [3, 24, 30]) (by kernel_rfl) (by simp) ?_
          refine (AllReadyH.cons rfl (fun K hK => ?_) (AllReadyH.cons rfl (fun K hK => ?_) (AllReadyH.cons rfl (fun K hK => ?_) AllReadyH.nil)))
          ·as_aux_lemma =>
            go_simp
            obtain ⟨ws7, hX⟩ : ∃ X, X = (ws6.alloc (.cells ([.int .u8 e.kind] : List Value).toArray 5)) := ⟨_, rfl⟩
            rw [← hX]
            have K1x : HasObj ws7 ws6.heap.size 5 [.int .u8 e.kind] := by rw [hX]; exact HasObj.new _ _ _
            have hbn : Below ws6.heap.size ws6 ws7 := by rw [hX]; exact (Below.refl ws6.heap.size ws6).alloc (Nat.le_refl _) _
            clear hX; replace A := hide ((uh A).ups hbn); replace RS := hide ((uh RS).up hbn); have sz8 := hide (hbn.size); replace BB := hide (below_y (uh BB) hbn); clear hbn; have K1 := hide K1x; clear K1x
            refine hK.out _ _ (⟨(uh A).cell 0 rfl, (uh A).cell 1 rfl, (uh A).cell 2 rfl, (uh A).cell 3 rfl, (uh A).cell 4 rfl, (uh A).cell 5 rfl, (uh A).cell 6 rfl, (uh A).cell 7 rfl⟩) (fun hHeld2 => ?_)
            clear hK K hHeld; have hHeld := hHeld2; clear hHeld2
            try simp only [Act.put, p1, p2, p3]
            refine heldMore (fun w' => w'.cell? ⟨ws6.heap.size, 0, none⟩ = some (.int .u8 e.kind)) ((uh K1).cell 0 rfl) hHeld (fun hHeld2 => ?_)
            clear hHeld; have hHeld := hHeld2; clear hHeld2; have K1v := CV1 (ws6.heap.size)
            refine tv 4 11 ?_
            clear K1v
            refine tv 8 15 ?_; refine tv 12 19 ?_; refine tv 17 24 ?_
            refine wpAnyH_ready (rs := [24, 30]) (by kernel_rfl) (by simp) ?_
            refine (AllReadyH.cons rfl (fun K hK => ?_) (AllReadyH.cons rfl (fun K hK => ?_) AllReadyH.nil))
            ·as_aux_lemma =>
              go_simp
              obtain ⟨ws8, hX⟩ : ∃ X, X = (ws7.alloc (.cells ([.int .u8 e.how, .int .u8 e.bits] : List Value).toArray 5)) := ⟨_, rfl⟩
              rw [← hX]
              have K2x : HasObj ws8 ws7.heap.size 5 [.int .u8 e.how, .int .u8 e.bits] := by rw [hX]; exact HasObj.new _ _ _
              have hbn : Below ws7.heap.size ws7 ws8 := by rw [hX]; exact (Below.refl ws7.heap.size ws7).alloc (Nat.le_refl _) _
              clear hX; replace A := hide ((uh A).ups hbn); replace K1 := hide ((uh K1).ups hbn); replace RS := hide ((uh RS).up hbn); have sz9 := hide (hbn.size); replace BB := hide (below_y (uh BB) hbn); clear hbn; have K2 := hide K2x; clear K2x
              refine hK.out _ _ (⟨(uh K1).cell 0 rfl, (uh A).cell 0 rfl, (uh A).cell 1 rfl, (uh A).cell 2 rfl, (uh A).cell 3 rfl, (uh A).cell 4 rfl, (uh A).cell 5 rfl, (uh A).cell 6 rfl, (uh A).cell 7 rfl⟩) (fun hHeld2 => ?_)
              clear hK K hHeld; have hHeld := hHeld2; clear hHeld2
              try simp only [Act.put, p1, p2, p3]
              refine heldMore (fun w' => w'.cell? ⟨ws7.heap.size, 1, none⟩ = some (.int .u8 e.bits)) ((uh K2).cell 1 rfl) hHeld (fun hHeld2 => ?_)
              clear hHeld; have hHeld := hHeld2; clear hHeld2
              refine heldMore (fun w' => w'.cell? ⟨ws7.heap.size, 0, none⟩ = some (.int .u8 e.how)) ((uh K2).cell 0 rfl) hHeld (fun hHeld2 => ?_)
              clear hHeld; have hHeld := hHeld2; clear hHeld2; have K2v := CV2 (ws7.heap.size)
              refine tv 25 32 ?_
              clear K2v
              refine tv 26 33 ?_
              refine wpAnyH_ready (rs := [30]) (by kernel_rfl) (by simp) ?_
              refine (AllReadyH.cons rfl (fun K hK => ?_) AllReadyH.nil)
              go_simp
              refine (varS (e.since + 1) _ (by have := (uh EF).since; omega) (by have := (uh EF).since; omega)).mono ?_
              rintro x ws9 ⟨rfl, hb⟩
              replace A := hide ((uh A).ups hb); replace K1 := hide ((uh K1).ups hb); replace K2 := hide ((uh K2).ups hb); replace RS := hide ((uh RS).up hb); have sz10 := hide (hb.size); replace BB := hide (below_y (uh BB) hb); clear hb; go_wp2_with fail
              refine hK.out _ _ (⟨(uh K2).cell 0 rfl, (uh K2).cell 1 rfl, (uh K1).cell 0 rfl, (uh A).cell 0 rfl, (uh A).cell 1 rfl, (uh A).cell 2 rfl, (uh A).cell 3 rfl, (uh A).cell 4 rfl, (uh A).cell 5 rfl, (uh A).cell 6 rfl, (uh A).cell 7 rfl⟩) (fun hHeld2 => ?_)
              clear hK K hHeld; have hHeld := hHeld2; clear hHeld2
              try simp only [Act.put, p1, p2, p3]
              refine tv 31 38 ?_
              refine wpAnyH_ready (rs := [34]) (by kernel_rfl) (by simp) ?_
              refine (AllReadyH.cons rfl (fun K hK => ?_) AllReadyH.nil)
              go_simp
              refine (shortS e.text _ (by have := (uh EF).text; omega)).mono ?_
              rintro x ws10 ⟨rfl, hb⟩
              replace A := hide ((uh A).ups hb); replace K1 := hide ((uh K1).ups hb); replace K2 := hide ((uh K2).ups hb); replace RS := hide ((uh RS).up hb); have sz11 := hide (hb.size); replace BB := hide (below_y (uh BB) hb); clear hb; go_wp2_with fail
              refine hK.out _ _ (⟨(uh K2).cell 0 rfl, (uh K2).cell 1 rfl, (uh K1).cell 0 rfl, (uh A).cell 0 rfl, (uh A).cell 1 rfl, (uh A).cell 2 rfl, (uh A).cell 3 rfl, (uh A).cell 4 rfl, (uh A).cell 5 rfl, (uh A).cell 6 rfl, (uh A).cell 7 rfl⟩) (fun hHeld2 => ?_)
              clear hK K hHeld; have hHeld := hHeld2; clear hHeld2
              try simp only [Act.put, p1, p2, p3]
              refine tv 35 42 ?_; refine tv 36 2 ?_; refine tv 37 3 ?_
              refine wpAnyH_done (by kernel_rfl) ?_ _
              go_wp2
              go_ret2
              rw [uh ANS]
              exact ⟨rfl, uh BB⟩
            ·as_aux_lemma =>
              go_simp
              refine (varS (e.since + 1) _ (by have := (uh EF).since; omega) (by have := (uh EF).since; omega)).mono ?_
              rintro x ws8 ⟨rfl, hb⟩
              replace A := hide ((uh A).ups hb); replace K1 := hide ((uh K1).ups hb); replace RS := hide ((uh RS).up hb); have sz9 := hide (hb.size); replace BB := hide (below_y (uh BB) hb); clear hb; go_wp2_with fail
              refine hK.out _ _ (⟨(uh K1).cell 0 rfl, (uh A).cell 0 rfl, (uh A).cell 1 rfl, (uh A).cell 2 rfl, (uh A).cell 3 rfl, (uh A).cell 4 rfl, (uh A).cell 5 rfl, (uh A).cell 6 rfl, (uh A).cell 7 rfl⟩) (fun hHeld2 => ?_)
              clear hK K hHeld; have hHeld := hHeld2; clear hHeld2
              try simp only [Act.put, p1, p2, p3]
              refine wpAnyH_ready (rs := [24, 34]) (by kernel_rfl) (by simp) ?_
              refine (AllReadyH.cons rfl (fun K hK => ?_) (AllReadyH.cons rfl (fun K hK => ?_) AllReadyH.nil))
              ·as_aux_lemma =>
                go_simp
                obtain ⟨ws9, hX⟩ : ∃ X, X = (ws8.alloc (.cells ([.int .u8 e.how, .int .u8 e.bits] : List Value).toArray 5)) := ⟨_, rfl⟩
                rw [← hX]
                have K2x : HasObj ws9 ws8.heap.size 5 [.int .u8 e.how, .int .u8 e.bits] := by rw [hX]; exact HasObj.new _ _ _
                have hbn : Below ws8.heap.size ws8 ws9 := by rw [hX]; exact (Below.refl ws8.heap.size ws8).alloc (Nat.le_refl _) _
                clear hX; replace A := hide ((uh A).ups hbn); replace K1 := hide ((uh K1).ups hbn); replace RS := hide ((uh RS).up hbn); have sz10 := hide (hbn.size); replace BB := hide (below_y (uh BB) hbn); clear hbn; have K2 := hide K2x; clear K2x
                refine hK.out _ _ (⟨(uh K1).cell 0 rfl, (uh A).cell 0 rfl, (uh A).cell 1 rfl, (uh A).cell 2 rfl, (uh A).cell 3 rfl, (uh A).cell 4 rfl, (uh A).cell 5 rfl, (uh A).cell 6 rfl, (uh A).cell 7 rfl⟩) (fun hHeld2 => ?_)
                clear hK K hHeld; have hHeld := hHeld2; clear hHeld2
                try simp only [Act.put, p1, p2, p3]
                refine heldMore (fun w' => w'.cell? ⟨ws8.heap.size, 1, none⟩ = some (.int .u8 e.bits)) ((uh K2).cell 1 rfl) hHeld (fun hHeld2 => ?_)
                clear hHeld; have hHeld := hHeld2; clear hHeld2
                refine heldMore (fun w' => w'.cell? ⟨ws8.heap.size, 0, none⟩ = some (.int .u8 e.how)) ((uh K2).cell 0 rfl) hHeld (fun hHeld2 => ?_)
                clear hHeld; have hHeld := hHeld2; clear hHeld2; have K2v := CV2 (ws8.heap.size)
                refine tv 25 32 ?_
                clear K2v
                refine tv 26 33 ?_; refine tv 31 38 ?_
                refine wpAnyH_ready (rs := [34]) (by kernel_rfl) (by simp) ?_
                refine (AllReadyH.cons rfl (fun K hK => ?_) AllReadyH.nil)
                go_simp
                refine (shortS e.text _ (by have := (uh EF).text; omega)).mono ?_
                rintro x ws10 ⟨rfl, hb⟩
                replace A := hide ((uh A).ups hb); replace K1 := hide ((uh K1).ups hb); replace K2 := hide ((uh K2).ups hb); replace RS := hide ((uh RS).up hb); have sz11 := hide (hb.size); replace BB := hide (below_y (uh BB) hb); clear hb; go_wp2_with fail
                refine hK.out _ _ (⟨(uh K2).cell 0 rfl, (uh K2).cell 1 rfl, (uh K1).cell 0 rfl, (uh A).cell 0 rfl, (uh A).cell 1 rfl, (uh A).cell 2 rfl, (uh A).cell 3 rfl, (uh A).cell 4 rfl, (uh A).cell 5 rfl, (uh A).cell 6 rfl, (uh A).cell 7 rfl⟩) (fun hHeld2 => ?_)
                clear hK K hHeld; have hHeld := hHeld2; clear hHeld2
                try simp only [Act.put, p1, p2, p3]
                refine tv 35 42 ?_; refine tv 36 2 ?_; refine tv 37 3 ?_
                refine wpAnyH_done (by kernel_rfl) ?_ _
                go_wp2
                go_ret2
                rw [uh ANS]
                exact ⟨rfl, uh BB⟩
              ·as_aux_lemma =>
                go_simp
                refine (shortS e.text _ (by have := (uh EF).text; omega)).mono ?_
                rintro x ws9 ⟨rfl, hb⟩
                replace A := hide ((uh A).ups hb); replace K1 := hide ((uh K1).ups hb); replace RS := hide ((uh RS).up hb); have sz10 := hide (hb.size); replace BB := hide (below_y (uh BB) hb); clear hb; go_wp2_with fail
                refine hK.out _ _ (⟨(uh K1).cell 0 rfl, (uh A).cell 0 rfl, (uh A).cell 1 rfl, (uh A).cell 2 rfl, (uh A).cell 3 rfl, (uh A).cell 4 rfl, (uh A).cell 5 rfl, (uh A).cell 6 rfl, (uh A).cell 7 rfl⟩) (fun hHeld2 => ?_)
                clear hK K hHeld; have hHeld := hHeld2; clear hHeld2
                try simp only [Act.put, p1, p2, p3]
                refine wpAnyH_ready (rs := [24]) (by kernel_rfl) (by simp) ?_
                refine (AllReadyH.cons rfl (fun K hK => ?_) AllReadyH.nil)
                go_simp
                obtain ⟨ws10, hX⟩ : ∃ X, X = (ws9.alloc (.cells ([.int .u8 e.how, .int .u8 e.bits] : List Value).toArray 5)) := ⟨_, rfl⟩
                rw [← hX]
                have K2x : HasObj ws10 ws9.heap.size 5 [.int .u8 e.how, .int .u8 e.bits] := by rw [hX]; exact HasObj.new _ _ _
                have hbn : Below ws9.heap.size ws9 ws10 := by rw [hX]; exact (Below.refl ws9.heap.size ws9).alloc (Nat.le_refl _) _
                clear hX; replace A := hide ((uh A).ups hbn); replace K1 := hide ((uh K1).ups hbn); replace RS := hide ((uh RS).up hbn); have sz11 := hide (hbn.size); replace BB := hide (below_y (uh BB) hbn); clear hbn; have K2 := hide K2x; clear K2x
                refine hK.out _ _ (⟨(uh K1).cell 0 rfl, (uh A).cell 0 rfl, (uh A).cell 1 rfl, (uh A).cell 2 rfl, (uh A).cell 3 rfl, (uh A).cell 4 rfl, (uh A).cell 5 rfl, (uh A).cell 6 rfl, (uh A).cell 7 rfl⟩) (fun hHeld2 => ?_)
                clear hK K hHeld; have hHeld := hHeld2; clear hHeld2
                try simp only [Act.put, p1, p2, p3]
                refine heldMore (fun w' => w'.cell? ⟨ws9.heap.size, 1, none⟩ = some (.int .u8 e.bits)) ((uh K2).cell 1 rfl) hHeld (fun hHeld2 => ?_)
                clear hHeld; have hHeld := hHeld2; clear hHeld2
                refine heldMore (fun w' => w'.cell? ⟨ws9.heap.size, 0, none⟩ = some (.int .u8 e.how)) ((uh K2).cell 0 rfl) hHeld (fun hHeld2 => ?_)
                clear hHeld; have hHeld := hHeld2; clear hHeld2; have K2v := CV2 (ws9.heap.size)
                refine tv 25 32 ?_
                clear K2v
                refine tv 26 33 ?_; refine tv 31 38 ?_; refine tv 35 42 ?_; refine tv 36 2 ?_; refine tv 37 3 ?_
                refine wpAnyH_done (by kernel_rfl) ?_ _
                go_wp2
                go_ret2
                rw [uh ANS]
                exact ⟨rfl, uh BB⟩
          ·as_aux_lemma =>
            go_simp
            obtain ⟨ws7, hX⟩ : ∃ X, X = (ws6.alloc (.cells ([.int .u8 e.how, .int .u8 e.bits] : List Value).toArray 5)) := ⟨_, rfl⟩
            rw [← hX]
            have K2x : HasObj ws7 ws6.heap.size 5 [.int .u8 e.how, .int .u8 e.bits] := by rw [hX]; exact HasObj.new _ _ _
            have hbn : Below ws6.heap.size ws6 ws7 := by rw [hX]; exact (Below.refl ws6.heap.size ws6).alloc (Nat.le_refl _) _
            clear hX; replace A := hide ((uh A).ups hbn); replace RS := hide ((uh RS).up hbn); have sz8 := hide (hbn.size); replace BB := hide (below_y (uh BB) hbn); clear hbn; have K2 := hide K2x; clear K2x
            refine hK.out _ _ (⟨(uh A).cell 0 rfl, (uh A).cell 1 rfl, (uh A).cell 2 rfl, (uh A).cell 3 rfl, (uh A).cell 4 rfl, (uh A).cell 5 rfl, (uh A).cell 6 rfl, (uh A).cell 7 rfl⟩) (fun hHeld2 => ?_)
            clear hK K hHeld; have hHeld := hHeld2; clear hHeld2
            try simp only [Act.put, p1, p2, p3]
            refine heldMore (fun w' => w'.cell? ⟨ws6.heap.size, 1, none⟩ = some (.int .u8 e.bits)) ((uh K2).cell 1 rfl) hHeld (fun hHeld2 => ?_)
            clear hHeld; have hHeld := hHeld2; clear hHeld2
            refine heldMore (fun w' => w'.cell? ⟨ws6.heap.size, 0, none⟩ = some (.int .u8 e.how)) ((uh K2).cell 0 rfl) hHeld (fun hHeld2 => ?_)
            clear hHeld; have hHeld := hHeld2; clear hHeld2; have K2v := CV2 (ws6.heap.size)
            refine tv 25 32 ?_
            clear K2v
            refine wpAnyH_ready (rs := [3, 30]) (by kernel_rfl) (by simp) ?_
            refine (AllReadyH.cons rfl (fun K hK => ?_) (AllReadyH.cons rfl (fun K hK => ?_) AllReadyH.nil))
            ·as_aux_lemma =>
              go_simp
              obtain ⟨ws8, hX⟩ : ∃ X, X = (ws7.alloc (.cells ([.int .u8 e.kind] : List Value).toArray 5)) := ⟨_, rfl⟩
              rw [← hX]
              have K1x : HasObj ws8 ws7.heap.size 5 [.int .u8 e.kind] := by rw [hX]; exact HasObj.new _ _ _
              have hbn : Below ws7.heap.size ws7 ws8 := by rw [hX]; exact (Below.refl ws7.heap.size ws7).alloc (Nat.le_refl _) _
              clear hX; replace A := hide ((uh A).ups hbn); replace K2 := hide ((uh K2).ups hbn); replace RS := hide ((uh RS).up hbn); have sz9 := hide (hbn.size); replace BB := hide (below_y (uh BB) hbn); clear hbn; have K1 := hide K1x; clear K1x
              refine hK.out _ _ (⟨(uh K2).cell 0 rfl, (uh K2).cell 1 rfl, (uh A).cell 0 rfl, (uh A).cell 1 rfl, (uh A).cell 2 rfl, (uh A).cell 3 rfl, (uh A).cell 4 rfl, (uh A).cell 5 rfl, (uh A).cell 6 rfl, (uh A).cell 7 rfl⟩) (fun hHeld2 => ?_)
              clear hK K hHeld; have hHeld := hHeld2; clear hHeld2
              try simp only [Act.put, p1, p2, p3]
              refine heldMore (fun w' => w'.cell? ⟨ws7.heap.size, 0, none⟩ = some (.int .u8 e.kind)) ((uh K1).cell 0 rfl) hHeld (fun hHeld2 => ?_)
              clear hHeld; have hHeld := hHeld2; clear hHeld2; have K1v := CV1 (ws7.heap.size)
              refine tv 4 11 ?_
              clear K1v
              refine tv 8 15 ?_; refine tv 12 19 ?_; refine tv 17 24 ?_; refine tv 26 33 ?_
              refine wpAnyH_ready (rs := [30]) (by kernel_rfl) (by simp) ?_
              refine (AllReadyH.cons rfl (fun K hK => ?_) AllReadyH.nil)
              go_simp
              refine (varS (e.since + 1) _ (by have := (uh EF).since; omega) (by have := (uh EF).since; omega)).mono ?_
              rintro x ws9 ⟨rfl, hb⟩
              replace A := hide ((uh A).ups hb); replace K2 := hide ((uh K2).ups hb); replace K1 := hide ((uh K1).ups hb); replace RS := hide ((uh RS).up hb); have sz10 := hide (hb.size); replace BB := hide (below_y (uh BB) hb); clear hb; go_wp2_with fail
              refine hK.out _ _ (⟨(uh K1).cell 0 rfl, (uh K2).cell 0 rfl, (uh K2).cell 1 rfl, (uh A).cell 0 rfl, (uh A).cell 1 rfl, (uh A).cell 2 rfl, (uh A).cell 3 rfl, (uh A).cell 4 rfl, (uh A).cell 5 rfl, (uh A).cell 6 rfl, (uh A).cell 7 rfl⟩) (fun hHeld2 => ?_)
              clear hK K hHeld; have hHeld := hHeld2; clear hHeld2
              try simp only [Act.put, p1, p2, p3]
              refine tv 31 38 ?_
              refine wpAnyH_ready (rs := [34]) (by kernel_rfl) (by simp) ?_
              refine (AllReadyH.cons rfl (fun K hK => ?_) AllReadyH.nil)
              go_simp
              refine (shortS e.text _ (by have := (uh EF).text; omega)).mono ?_
              rintro x ws10 ⟨rfl, hb⟩
              replace A := hide ((uh A).ups hb); replace K2 := hide ((uh K2).ups hb); replace K1 := hide ((uh K1).ups hb); replace RS := hide ((uh RS).up hb); have sz11 := hide (hb.size); replace BB := hide (below_y (uh BB) hb); clear hb; go_wp2_with fail
              refine hK.out _ _ (⟨(uh K1).cell 0 rfl, (uh K2).cell 0 rfl, (uh K2).cell 1 rfl, (uh A).cell 0 rfl, (uh A).cell 1 rfl, (uh A).cell 2 rfl, (uh A).cell 3 rfl, (uh A).cell 4 rfl, (uh A).cell 5 rfl, (uh A).cell 6 rfl, (uh A).cell 7 rfl⟩) (fun hHeld2 => ?_)
              clear hK K hHeld; have hHeld := hHeld2; clear hHeld2
              try simp only [Act.put, p1, p2, p3]
              refine tv 35 42 ?_; refine tv 36 2 ?_; refine tv 37 3 ?_
              refine wpAnyH_done (by kernel_rfl) ?_ _
              go_wp2
              go_ret2
              rw [uh ANS]
              exact ⟨rfl, uh BB⟩
            ·as_aux_lemma =>
              go_simp
              refine (varS (e.since + 1) _ (by have := (uh EF).since; omega) (by have := (uh EF).since; omega)).mono ?_
              rintro x ws8 ⟨rfl, hb⟩
              replace A := hide ((uh A).ups hb); replace K2 := hide ((uh K2).ups hb); replace RS := hide ((uh RS).up hb); have sz9 := hide (hb.size); replace BB := hide (below_y (uh BB) hb); clear hb; go_wp2_with fail
              refine hK.out _ _ (⟨(uh K2).cell 0 rfl, (uh K2).cell 1 rfl, (uh A).cell 0 rfl, (uh A).cell 1 rfl, (uh A).cell 2 rfl, (uh A).cell 3 rfl, (uh A).cell 4 rfl, (uh A).cell 5 rfl, (uh A).cell 6 rfl, (uh A).cell 7 rfl⟩) (fun hHeld2 => ?_)
              clear hK K hHeld; have hHeld := hHeld2; clear hHeld2
              try simp only [Act.put, p1, p2, p3]
              refine wpAnyH_ready (rs := [3, 34]) (by kernel_rfl) (by simp) ?_
              refine (AllReadyH.cons rfl (fun K hK => ?_) (AllReadyH.cons rfl (fun K hK => ?_) AllReadyH.nil))
              ·as_aux_lemma =>
                go_simp
                obtain ⟨ws9, hX⟩ : ∃ X, X = (ws8.alloc (.cells ([.int .u8 e.kind] : List Value).toArray 5)) := ⟨_, rfl⟩
                rw [← hX]
                have K1x : HasObj ws9 ws8.heap.size 5 [.int .u8 e.kind] := by rw [hX]; exact HasObj.new _ _ _
                have hbn : Below ws8.heap.size ws8 ws9 := by rw [hX]; exact (Below.refl ws8.heap.size ws8).alloc (Nat.le_refl _) _
                clear hX; replace A := hide ((uh A).ups hbn); replace K2 := hide ((uh K2).ups hbn); replace RS := hide ((uh RS).up hbn); have sz10 := hide (hbn.size); replace BB := hide (below_y (uh BB) hbn); clear hbn; have K1 := hide K1x; clear K1x
                refine hK.out _ _ (⟨(uh K2).cell 0 rfl, (uh K2).cell 1 rfl, (uh A).cell 0 rfl, (uh A).cell 1 rfl, (uh A).cell 2 rfl, (uh A).cell 3 rfl, (uh A).cell 4 rfl, (uh A).cell 5 rfl, (uh A).cell 6 rfl, (uh A).cell 7 rfl⟩) (fun hHeld2 => ?_)
                clear hK K hHeld; have hHeld := hHeld2; clear hHeld2
                try simp only [Act.put, p1, p2, p3]
                refine heldMore (fun w' => w'.cell? ⟨ws8.heap.size, 0, none⟩ = some (.int .u8 e.kind)) ((uh K1).cell 0 rfl) hHeld (fun hHeld2 => ?_)
                clear hHeld; have hHeld := hHeld2; clear hHeld2; have K1v := CV1 (ws8.heap.size)
                refine tv 4 11 ?_
                clear K1v
                refine tv 8 15 ?_; refine tv 12 19 ?_; refine tv 17 24 ?_; refine tv 26 33 ?_; refine tv 31 38 ?_
                refine wpAnyH_ready (rs := [34]) (by kernel_rfl) (by simp) ?_
                refine (AllReadyH.cons rfl (fun K hK => ?_) AllReadyH.nil)
                go_simp
                refine (shortS e.text _ (by have := (uh EF).text; omega)).mono ?_
                rintro x ws10 ⟨rfl, hb⟩
                replace A := hide ((uh A).ups hb); replace K2 := hide ((uh K2).ups hb); replace K1 := hide ((uh K1).ups hb); replace RS := hide ((uh RS).up hb); have sz11 := hide (hb.size); replace BB := hide (below_y (uh BB) hb); clear hb; go_wp2_with fail
                refine hK.out _ _ (⟨(uh K1).cell 0 rfl, (uh K2).cell 0 rfl, (uh K2).cell 1 rfl, (uh A).cell 0 rfl, (uh A).cell 1 rfl, (uh A).cell 2 rfl, (uh A).cell 3 rfl, (uh A).cell 4 rfl, (uh A).cell 5 rfl, (uh A).cell 6 rfl, (uh A).cell 7 rfl⟩) (fun hHeld2 => ?_)
                clear hK K hHeld; have hHeld := hHeld2; clear hHeld2
                try simp only [Act.put, p1, p2, p3]
                refine tv 35 42 ?_; refine tv 36 2 ?_; refine tv 37 3 ?_
                refine wpAnyH_done (by kernel_rfl) ?_ _
                go_wp2
                go_ret2
                rw [uh ANS]
                exact ⟨rfl, uh BB⟩
              ·as_aux_lemma =>
                go_simp
                refine (shortS e.text _ (by have := (uh EF).text; omega)).mono ?_
                rintro x ws9 ⟨rfl, hb⟩
                replace A := hide ((uh A).ups hb); replace K2 := hide ((uh K2).ups hb); replace RS := hide ((uh RS).up hb); have sz10 := hide (hb.size); replace BB := hide (below_y (uh BB) hb); clear hb; go_wp2_with fail
                refine hK.out _ _ (⟨(uh K2).cell 0 rfl, (uh K2).cell 1 rfl, (uh A).cell 0 rfl, (uh A).cell 1 rfl, (uh A).cell 2 rfl, (uh A).cell 3 rfl, (uh A).cell 4 rfl, (uh A).cell 5 rfl, (uh A).cell 6 rfl, (uh A).cell 7 rfl⟩) (fun hHeld2 => ?_)
                clear hK K hHeld; have hHeld := hHeld2; clear hHeld2
                try simp only [Act.put, p1, p2, p3]
                refine wpAnyH_ready (rs := [3]) (by kernel_rfl) (by simp) ?_
                refine (AllReadyH.cons rfl (fun K hK => ?_) AllReadyH.nil)
                go_simp
                obtain ⟨ws10, hX⟩ : ∃ X, X = (ws9.alloc (.cells ([.int .u8 e.kind] : List Value).toArray 5)) := ⟨_, rfl⟩
                rw [← hX]
                have K1x : HasObj ws10 ws9.heap.size 5 [.int .u8 e.kind] := by rw [hX]; exact HasObj.new _ _ _
                have hbn : Below ws9.heap.size ws9 ws10 := by rw [hX]; exact (Below.refl ws9.heap.size ws9).alloc (Nat.le_refl _) _
                clear hX; replace A := hide ((uh A).ups hbn); replace K2 := hide ((uh K2).ups hbn); replace RS := hide ((uh RS).up hbn); have sz11 := hide (hbn.size); replace BB := hide (below_y (uh BB) hbn); clear hbn; have K1 := hide K1x; clear K1x
                refine hK.out _ _ (⟨(uh K2).cell 0 rfl, (uh K2).cell 1 rfl, (uh A).cell 0 rfl, (uh A).cell 1 rfl, (uh A).cell 2 rfl, (uh A).cell 3 rfl, (uh A).cell 4 rfl, (uh A).cell 5 rfl, (uh A).cell 6 rfl, (uh A).cell 7 rfl⟩) (fun hHeld2 => ?_)
                clear hK K hHeld; have hHeld := hHeld2; clear hHeld2
                try simp only [Act.put, p1, p2, p3]
                refine heldMore (fun w' => w'.cell? ⟨ws9.heap.size, 0, none⟩ = some (.int .u8 e.kind)) ((uh K1).cell 0 rfl) hHeld (fun hHeld2 => ?_)
                clear hHeld; have hHeld := hHeld2; clear hHeld2; have K1v := CV1 (ws9.heap.size)
                refine tv 4 11 ?_
                clear K1v
                refine tv 8 15 ?_; refine tv 12 19 ?_; refine tv 17 24 ?_; refine tv 26 33 ?_; refine tv 31 38 ?_; refine tv 35 42 ?_; refine tv 36 2 ?_; refine tv 37 3 ?_
                refine wpAnyH_done (by kernel_rfl) ?_ _
                go_wp2
                go_ret2
                rw [uh ANS]
                exact ⟨rfl, uh BB⟩
          ·as_aux_lemma =>
            go_simp
            refine (varS (e.since + 1) _ (by have := (uh EF).since; omega) (by have := (uh EF).since; omega)).mono ?_
            rintro x ws7 ⟨rfl, hb⟩
            replace A := hide ((uh A).ups hb); replace RS := hide ((uh RS).up hb); have sz8 := hide (hb.size); replace BB := hide (below_y (uh BB) hb); clear hb; go_wp2_with fail
            refine hK.out _ _ (⟨(uh A).cell 0 rfl, (uh A).cell 1 rfl, (uh A).cell 2 rfl, (uh A).cell 3 rfl, (uh A).cell 4 rfl, (uh A).cell 5 rfl, (uh A).cell 6 rfl, (uh A).cell 7 rfl⟩) (fun hHeld2 => ?_)
            clear hK K hHeld; have hHeld := hHeld2; clear hHeld2
            try simp only [Act.put, p1, p2, p3]
            refine wpAnyH_ready (rs := [3, 24, 34]) (by kernel_rfl) (by simp) ?_
            refine (AllReadyH.cons rfl (fun K hK => ?_) (AllReadyH.cons rfl (fun K hK => ?_) (AllReadyH.cons rfl (fun K hK => ?_) AllReadyH.nil)))
            ·as_aux_lemma =>
              go_simp
              obtain ⟨ws8, hX⟩ : ∃ X, X = (ws7.alloc (.cells ([.int .u8 e.kind] : List Value).toArray 5)) := ⟨_, rfl⟩
              rw [← hX]
              have K1x : HasObj ws8 ws7.heap.size 5 [.int .u8 e.kind] := by rw [hX]; exact HasObj.new _ _ _
              have hbn : Below ws7.heap.size ws7 ws8 := by rw [hX]; exact (Below.refl ws7.heap.size ws7).alloc (Nat.le_refl _) _
              clear hX; replace A := hide ((uh A).ups hbn); replace RS := hide ((uh RS).up hbn); have sz9 := hide (hbn.size); replace BB := hide (below_y (uh BB) hbn); clear hbn; have K1 := hide K1x; clear K1x
              refine hK.out _ _ (⟨(uh A).cell 0 rfl, (uh A).cell 1 rfl, (uh A).cell 2 rfl, (uh A).cell 3 rfl, (uh A).cell 4 rfl, (uh A).cell 5 rfl, (uh A).cell 6 rfl, (uh A).cell 7 rfl⟩) (fun hHeld2 => ?_)
              clear hK K hHeld; have hHeld := hHeld2; clear hHeld2
              try simp only [Act.put, p1, p2, p3]
              refine heldMore (fun w' => w'.cell? ⟨ws7.heap.size, 0, none⟩ = some (.int .u8 e.kind)) ((uh K1).cell 0 rfl) hHeld (fun hHeld2 => ?_)
              clear hHeld; have hHeld := hHeld2; clear hHeld2; have K1v := CV1 (ws7.heap.size)
              refine tv 4 11 ?_
              clear K1v
              refine tv 8 15 ?_; refine tv 12 19 ?_; refine tv 17 24 ?_
              refine wpAnyH_ready (rs := [24, 34]) (by kernel_rfl) (by simp) ?_
              refine (AllReadyH.cons rfl (fun K hK => ?_) (AllReadyH.cons rfl (fun K hK => ?_) AllReadyH.nil))
              ·as_aux_lemma =>
                go_simp
                obtain ⟨ws9, hX⟩ : ∃ X, X = (ws8.alloc (.cells ([.int .u8 e.how, .int .u8 e.bits] : List Value).toArray 5)) := ⟨_, rfl⟩
                rw [← hX]
                have K2x : HasObj ws9 ws8.heap.size 5 [.int .u8 e.how, .int .u8 e.bits] := by rw [hX]; exact HasObj.new _ _ _
                have hbn : Below ws8.heap.size ws8 ws9 := by rw [hX]; exact (Below.refl ws8.heap.size ws8).alloc (Nat.le_refl _) _
                clear hX; replace A := hide ((uh A).ups hbn); replace K1 := hide ((uh K1).ups hbn); replace RS := hide ((uh RS).up hbn); have sz10 := hide (hbn.size); replace BB := hide (below_y (uh BB) hbn); clear hbn; have K2 := hide K2x; clear K2x
                refine hK.out _ _ (⟨(uh K1).cell 0 rfl, (uh A).cell 0 rfl, (uh A).cell 1 rfl, (uh A).cell 2 rfl, (uh A).cell 3 rfl, (uh A).cell 4 rfl, (uh A).cell 5 rfl, (uh A).cell 6 rfl, (uh A).cell 7 rfl⟩) (fun hHeld2 => ?_)
                clear hK K hHeld; have hHeld := hHeld2; clear hHeld2
                try simp only [Act.put, p1, p2, p3]
                refine heldMore (fun w' => w'.cell? ⟨ws8.heap.size, 1, none⟩ = some (.int .u8 e.bits)) ((uh K2).cell 1 rfl) hHeld (fun hHeld2 => ?_)
                clear hHeld; have hHeld := hHeld2; clear hHeld2
                refine heldMore (fun w' => w'.cell? ⟨ws8.heap.size, 0, none⟩ = some (.int .u8 e.how)) ((uh K2).cell 0 rfl) hHeld (fun hHeld2 => ?_)
                clear hHeld; have hHeld := hHeld2; clear hHeld2; have K2v := CV2 (ws8.heap.size)
                refine tv 25 32 ?_
                clear K2v
                refine tv 26 33 ?_; refine tv 31 38 ?_
                refine wpAnyH_ready (rs := [34]) (by kernel_rfl) (by simp) ?_
                refine (AllReadyH.cons rfl (fun K hK => ?_) AllReadyH.nil)
                go_simp
                refine (shortS e.text _ (by have := (uh EF).text; omega)).mono ?_
                rintro x ws10 ⟨rfl, hb⟩
                replace A := hide ((uh A).ups hb); replace K1 := hide ((uh K1).ups hb); replace K2 := hide ((uh K2).ups hb); replace RS := hide ((uh RS).up hb); have sz11 := hide (hb.size); replace BB := hide (below_y (uh BB) hb); clear hb; go_wp2_with fail
                refine hK.out _ _ (⟨(uh K2).cell 0 rfl, (uh K2).cell 1 rfl, (uh K1).cell 0 rfl, (uh A).cell 0 rfl, (uh A).cell 1 rfl, (uh A).cell 2 rfl, (uh A).cell 3 rfl, (uh A).cell 4 rfl, (uh A).cell 5 rfl, (uh A).cell 6 rfl, (uh A).cell 7 rfl⟩) (fun hHeld2 => ?_)
                clear hK K hHeld; have hHeld := hHeld2; clear hHeld2
                try simp only [Act.put, p1, p2, p3]
                refine tv 35 42 ?_; refine tv 36 2 ?_; refine tv 37 3 ?_
                refine wpAnyH_done (by kernel_rfl) ?_ _
                go_wp2
                go_ret2
                rw [uh ANS]
                exact ⟨rfl, uh BB⟩
              ·as_aux_lemma =>
                go_simp
                refine (shortS e.text _ (by have := (uh EF).text; omega)).mono ?_
                rintro x ws9 ⟨rfl, hb⟩
                replace A := hide ((uh A).ups hb); replace K1 := hide ((uh K1).ups hb); replace RS := hide ((uh RS).up hb); have sz10 := hide (hb.size); replace BB := hide (below_y (uh BB) hb); clear hb; go_wp2_with fail
                refine hK.out _ _ (⟨(uh K1).cell 0 rfl, (uh A).cell 0 rfl, (uh A).cell 1 rfl, (uh A).cell 2 rfl, (uh A).cell 3 rfl, (uh A).cell 4 rfl, (uh A).cell 5 rfl, (uh A).cell 6 rfl, (uh A).cell 7 rfl⟩) (fun hHeld2 => ?_)
                clear hK K hHeld; have hHeld := hHeld2; clear hHeld2
                try simp only [Act.put, p1, p2, p3]
                refine wpAnyH_ready (rs := [24]) (by kernel_rfl) (by simp) ?_
                refine (AllReadyH.cons rfl (fun K hK => ?_) AllReadyH.nil)
                go_simp
                obtain ⟨ws10, hX⟩ : ∃ X, X = (ws9.alloc (.cells ([.int .u8 e.how, .int .u8 e.bits] : List Value).toArray 5)) := ⟨_, rfl⟩
                rw [← hX]
                have K2x : HasObj ws10 ws9.heap.size 5 [.int .u8 e.how, .int .u8 e.bits] := by rw [hX]; exact HasObj.new _ _ _
                have hbn : Below ws9.heap.size ws9 ws10 := by rw [hX]; exact (Below.refl ws9.heap.size ws9).alloc (Nat.le_refl _) _
                clear hX; replace A := hide ((uh A).ups hbn); replace K1 := hide ((uh K1).ups hbn); replace RS := hide ((uh RS).up hbn); have sz11 := hide (hbn.size); replace BB := hide (below_y (uh BB) hbn); clear hbn; have K2 := hide K2x; clear K2x
                refine hK.out _ _ (⟨(uh K1).cell 0 rfl, (uh A).cell 0 rfl, (uh A).cell 1 rfl, (uh A).cell 2 rfl, (uh A).cell 3 rfl, (uh A).cell 4 rfl, (uh A).cell 5 rfl, (uh A).cell 6 rfl, (uh A).cell 7 rfl⟩) (fun hHeld2 => ?_)
                clear hK K hHeld; have hHeld := hHeld2; clear hHeld2
                try simp only [Act.put, p1, p2, p3]
                refine heldMore (fun w' => w'.cell? ⟨ws9.heap.size, 1, none⟩ = some (.int .u8 e.bits)) ((uh K2).cell 1 rfl) hHeld (fun hHeld2 => ?_)
                clear hHeld; have hHeld := hHeld2; clear hHeld2
                refine heldMore (fun w' => w'.cell? ⟨ws9.heap.size, 0, none⟩ = some (.int .u8 e.how)) ((uh K2).cell 0 rfl) hHeld (fun hHeld2 => ?_)
                clear hHeld; have hHeld := hHeld2; clear hHeld2; have K2v := CV2 (ws9.heap.size)
                refine tv 25 32 ?_
                clear K2v
                refine tv 26 33 ?_; refine tv 31 38 ?_; refine tv 35 42 ?_; refine tv 36 2 ?_; refine tv 37 3 ?_
                refine wpAnyH_done (by kernel_rfl) ?_ _
                go_wp2
                go_ret2
                rw [uh ANS]
                exact ⟨rfl, uh BB⟩
            ·as_aux_lemma =>
              go_simp
              obtain ⟨ws8, hX⟩ : ∃ X, X = (ws7.alloc (.cells ([.int .u8 e.how, .int .u8 e.bits] : List Value).toArray 5)) := ⟨_, rfl⟩
              rw [← hX]
              have K2x : HasObj ws8 ws7.heap.size 5 [.int .u8 e.how, .int .u8 e.bits] := by rw [hX]; exact HasObj.new _ _ _
              have hbn : Below ws7.heap.size ws7 ws8 := by rw [hX]; exact (Below.refl ws7.heap.size ws7).alloc (Nat.le_refl _) _
              clear hX; replace A := hide ((uh A).ups hbn); replace RS := hide ((uh RS).up hbn); have sz9 := hide (hbn.size); replace BB := hide (below_y (uh BB) hbn); clear hbn; have K2 := hide K2x; clear K2x
              refine hK.out _ _ (⟨(uh A).cell 0 rfl, (uh A).cell 1 rfl, (uh A).cell 2 rfl, (uh A).cell 3 rfl, (uh A).cell 4 rfl, (uh A).cell 5 rfl, (uh A).cell 6 rfl, (uh A).cell 7 rfl⟩) (fun hHeld2 => ?_)
              clear hK K hHeld; have hHeld := hHeld2; clear hHeld2
              try simp only [Act.put, p1, p2, p3]
              refine heldMore (fun w' => w'.cell? ⟨ws7.heap.size, 1, none⟩ = some (.int .u8 e.bits)) ((uh K2).cell 1 rfl) hHeld (fun hHeld2 => ?_)
              clear hHeld; have hHeld := hHeld2; clear hHeld2
              refine heldMore (fun w' => w'.cell? ⟨ws7.heap.size, 0, none⟩ = some (.int .u8 e.how)) ((uh K2).cell 0 rfl) hHeld (fun hHeld2 => ?_)
              clear hHeld; have hHeld := hHeld2; clear hHeld2; have K2v := CV2 (ws7.heap.size)
              refine tv 25 32 ?_
              clear K2v
              refine wpAnyH_ready (rs := [3, 34]) (by kernel_rfl) (by simp) ?_
              refine (AllReadyH.cons rfl (fun K hK => ?_) (AllReadyH.cons rfl (fun K hK => ?_) AllReadyH.nil))
              ·as_aux_lemma =>
                go_simp
                obtain ⟨ws9, hX⟩ : ∃ X, X = (ws8.alloc (.cells ([.int .u8 e.kind] : List Value).toArray 5)) := ⟨_, rfl⟩
                rw [← hX]
                have K1x : HasObj ws9 ws8.heap.size 5 [.int .u8 e.kind] := by rw [hX]; exact HasObj.new _ _ _
                have hbn : Below ws8.heap.size ws8 ws9 := by rw [hX]; exact (Below.refl ws8.heap.size ws8).alloc (Nat.le_refl _) _
                clear hX; replace A := hide ((uh A).ups hbn); replace K2 := hide ((uh K2).ups hbn); replace RS := hide ((uh RS).up hbn); have sz10 := hide (hbn.size); replace BB := hide (below_y (uh BB) hbn); clear hbn; have K1 := hide K1x; clear K1x
                refine hK.out _ _ (⟨(uh K2).cell 0 rfl, (uh K2).cell 1 rfl, (uh A).cell 0 rfl, (uh A).cell 1 rfl, (uh A).cell 2 rfl, (uh A).cell 3 rfl, (uh A).cell 4 rfl, (uh A).cell 5 rfl, (uh A).cell 6 rfl, (uh A).cell 7 rfl⟩) (fun hHeld2 => ?_)
                clear hK K hHeld; have hHeld := hHeld2; clear hHeld2
                try simp only [Act.put, p1, p2, p3]
                refine heldMore (fun w' => w'.cell? ⟨ws8.heap.size, 0, none⟩ = some (.int .u8 e.kind)) ((uh K1).cell 0 rfl) hHeld (fun hHeld2 => ?_)
                clear hHeld; have hHeld := hHeld2; clear hHeld2; have K1v := CV1 (ws8.heap.size)
                refine tv 4 11 ?_
                clear K1v
                refine tv 8 15 ?_; refine tv 12 19 ?_; refine tv 17 24 ?_; refine tv 26 33 ?_; refine tv 31 38 ?_
                refine wpAnyH_ready (rs := [34]) (by kernel_rfl) (by simp) ?_
                refine (AllReadyH.cons rfl (fun K hK => ?_) AllReadyH.nil)
                go_simp
                refine (shortS e.text _ (by have := (uh EF).text; omega)).mono ?_
                rintro x ws10 ⟨rfl, hb⟩
                replace A := hide ((uh A).ups hb); replace K2 := hide ((uh K2).ups hb); replace K1 := hide ((uh K1).ups hb); replace RS := hide ((uh RS).up hb); have sz11 := hide (hb.size); replace BB := hide (below_y (uh BB) hb); clear hb; go_wp2_with fail
                refine hK.out _ _ (⟨(uh K1).cell 0 rfl, (uh K2).cell 0 rfl, (uh K2).cell 1 rfl, (uh A).cell 0 rfl, (uh A).cell 1 rfl, (uh A).cell 2 rfl, (uh A).cell 3 rfl, (uh A).cell 4 rfl, (uh A).cell 5 rfl, (uh A).cell 6 rfl, (uh A).cell 7 rfl⟩) (fun hHeld2 => ?_)
                clear hK K hHeld; have hHeld := hHeld2; clear hHeld2
                try simp only [Act.put, p1, p2, p3]
                refine tv 35 42 ?_; refine tv 36 2 ?_; refine tv 37 3 ?_
                refine wpAnyH_done (by kernel_rfl) ?_ _
                go_wp2
                go_ret2
                rw [uh ANS]
                exact ⟨rfl, uh BB⟩
              ·as_aux_lemma =>
                go_simp
                refine (shortS e.text _ (by have := (uh EF).text; omega)).mono ?_
                rintro x ws9 ⟨rfl, hb⟩
                replace A := hide ((uh A).ups hb); replace K2 := hide ((uh K2).ups hb); replace RS := hide ((uh RS).up hb); have sz10 := hide (hb.size); replace BB := hide (below_y (uh BB) hb); clear hb; go_wp2_with fail
                refine hK.out _ _ (⟨(uh K2).cell 0 rfl, (uh K2).cell 1 rfl, (uh A).cell 0 rfl, (uh A).cell 1 rfl, (uh A).cell 2 rfl, (uh A).cell 3 rfl, (uh A).cell 4 rfl, (uh A).cell 5 rfl, (uh A).cell 6 rfl, (uh A).cell 7 rfl⟩) (fun hHeld2 => ?_)
                clear hK K hHeld; have hHeld := hHeld2; clear hHeld2
                try simp only [Act.put, p1, p2, p3]
                refine wpAnyH_ready (rs := [3]) (by kernel_rfl) (by simp) ?_
                refine (AllReadyH.cons rfl (fun K hK => ?_) AllReadyH.nil)
                go_simp
                obtain ⟨ws10, hX⟩ : ∃ X, X = (ws9.alloc (.cells ([.int .u8 e.kind] : List Value).toArray 5)) := ⟨_, rfl⟩
                rw [← hX]
                have K1x : HasObj ws10 ws9.heap.size 5 [.int .u8 e.kind] := by rw [hX]; exact HasObj.new _ _ _
                have hbn : Below ws9.heap.size ws9 ws10 := by rw [hX]; exact (Below.refl ws9.heap.size ws9).alloc (Nat.le_refl _) _
                clear hX; replace A := hide ((uh A).ups hbn); replace K2 := hide ((uh K2).ups hbn); replace RS := hide ((uh RS).up hbn); have sz11 := hide (hbn.size); replace BB := hide (below_y (uh BB) hbn); clear hbn; have K1 := hide K1x; clear K1x
                refine hK.out _ _ (⟨(uh K2).cell 0 rfl, (uh K2).cell 1 rfl, (uh A).cell 0 rfl, (uh A).cell 1 rfl, (uh A).cell 2 rfl, (uh A).cell 3 rfl, (uh A).cell 4 rfl, (uh A).cell 5 rfl, (uh A).cell 6 rfl, (uh A).cell 7 rfl⟩) (fun hHeld2 => ?_)
                clear hK K hHeld; have hHeld := hHeld2; clear hHeld2
                try simp only [Act.put, p1, p2, p3]
                refine heldMore (fun w' => w'.cell? ⟨ws9.heap.size, 0, none⟩ = some (.int .u8 e.kind)) ((uh K1).cell 0 rfl) hHeld (fun hHeld2 => ?_)
                clear hHeld; have hHeld := hHeld2; clear hHeld2; have K1v := CV1 (ws9.heap.size)
                refine tv 4 11 ?_
                clear K1v
                refine tv 8 15 ?_; refine tv 12 19 ?_; refine tv 17 24 ?_; refine tv 26 33 ?_; refine tv 31 38 ?_; refine tv 35 42 ?_; refine tv 36 2 ?_; refine tv 37 3 ?_
                refine wpAnyH_done (by kernel_rfl) ?_ _
                go_wp2
                go_ret2
                rw [uh ANS]
                exact ⟨rfl, uh BB⟩
            ·as_aux_lemma =>
              go_simp
              refine (shortS e.text _ (by have := (uh EF).text; omega)).mono ?_
              rintro x ws8 ⟨rfl, hb⟩
              replace A := hide ((uh A).ups hb); replace RS := hide ((uh RS).up hb); have sz9 := hide (hb.size); replace BB := hide (below_y (uh BB) hb); clear hb; go_wp2_with fail
              refine hK.out _ _ (⟨(uh A).cell 0 rfl, (uh A).cell 1 rfl, (uh A).cell 2 rfl, (uh A).cell 3 rfl, (uh A).cell 4 rfl, (uh A).cell 5 rfl, (uh A).cell 6 rfl, (uh A).cell 7 rfl⟩) (fun hHeld2 => ?_)
              clear hK K hHeld; have hHeld := hHeld2; clear hHeld2
              try simp only [Act.put, p1, p2, p3]
              refine wpAnyH_ready (rs := [3, 24]) (by kernel_rfl) (by simp) ?_
              refine (AllReadyH.cons rfl (fun K hK => ?_) (AllReadyH.cons rfl (fun K hK => ?_) AllReadyH.nil))
              ·as_aux_lemma =>
                go_simp
                obtain ⟨ws9, hX⟩ : ∃ X, X = (ws8.alloc (.cells ([.int .u8 e.kind] : List Value).toArray 5)) := ⟨_, rfl⟩
                rw [← hX]
                have K1x : HasObj ws9 ws8.heap.size 5 [.int .u8 e.kind] := by rw [hX]; exact HasObj.new _ _ _
                have hbn : Below ws8.heap.size ws8 ws9 := by rw [hX]; exact (Below.refl ws8.heap.size ws8).alloc (Nat.le_refl _) _
                clear hX; replace A := hide ((uh A).ups hbn); replace RS := hide ((uh RS).up hbn); have sz10 := hide (hbn.size); replace BB := hide (below_y (uh BB) hbn); clear hbn; have K1 := hide K1x; clear K1x
                refine hK.out _ _ (⟨(uh A).cell 0 rfl, (uh A).cell 1 rfl, (uh A).cell 2 rfl, (uh A).cell 3 rfl, (uh A).cell 4 rfl, (uh A).cell 5 rfl, (uh A).cell 6 rfl, (uh A).cell 7 rfl⟩) (fun hHeld2 => ?_)
                clear hK K hHeld; have hHeld := hHeld2; clear hHeld2
                try simp only [Act.put, p1, p2, p3]
                refine heldMore (fun w' => w'.cell? ⟨ws8.heap.size, 0, none⟩ = some (.int .u8 e.kind)) ((uh K1).cell 0 rfl) hHeld (fun hHeld2 => ?_)
                clear hHeld; have hHeld := hHeld2; clear hHeld2; have K1v := CV1 (ws8.heap.size)
                refine tv 4 11 ?_
                clear K1v
                refine tv 8 15 ?_; refine tv 12 19 ?_; refine tv 17 24 ?_
                refine wpAnyH_ready (rs := [24]) (by kernel_rfl) (by simp) ?_
                refine (AllReadyH.cons rfl (fun K hK => ?_) AllReadyH.nil)
                go_simp
                obtain ⟨ws10, hX⟩ : ∃ X, X = (ws9.alloc (.cells ([.int .u8 e.how, .int .u8 e.bits] : List Value).toArray 5)) := ⟨_, rfl⟩
                rw [← hX]
                have K2x : HasObj ws10 ws9.heap.size 5 [.int .u8 e.how, .int .u8 e.bits] := by rw [hX]; exact HasObj.new _ _ _
                have hbn : Below ws9.heap.size ws9 ws10 := by rw [hX]; exact (Below.refl ws9.heap.size ws9).alloc (Nat.le_refl _) _
                clear hX; replace A := hide ((uh A).ups hbn); replace K1 := hide ((uh K1).ups hbn); replace RS := hide ((uh RS).up hbn); have sz11 := hide (hbn.size); replace BB := hide (below_y (uh BB) hbn); clear hbn; have K2 := hide K2x; clear K2x
                refine hK.out _ _ (⟨(uh K1).cell 0 rfl, (uh A).cell 0 rfl, (uh A).cell 1 rfl, (uh A).cell 2 rfl, (uh A).cell 3 rfl, (uh A).cell 4 rfl, (uh A).cell 5 rfl, (uh A).cell 6 rfl, (uh A).cell 7 rfl⟩) (fun hHeld2 => ?_)
                clear hK K hHeld; have hHeld := hHeld2; clear hHeld2
                try simp only [Act.put, p1, p2, p3]
                refine heldMore (fun w' => w'.cell? ⟨ws9.heap.size, 1, none⟩ = some (.int .u8 e.bits)) ((uh K2).cell 1 rfl) hHeld (fun hHeld2 => ?_)
                clear hHeld; have hHeld := hHeld2; clear hHeld2
                refine heldMore (fun w' => w'.cell? ⟨ws9.heap.size, 0, none⟩ = some (.int .u8 e.how)) ((uh K2).cell 0 rfl) hHeld (fun hHeld2 => ?_)
                clear hHeld; have hHeld := hHeld2; clear hHeld2; have K2v := CV2 (ws9.heap.size)
                refine tv 25 32 ?_
                clear K2v
                refine tv 26 33 ?_; refine tv 31 38 ?_; refine tv 35 42 ?_; refine tv 36 2 ?_; refine tv 37 3 ?_
                refine wpAnyH_done (by kernel_rfl) ?_ _
                go_wp2
                go_ret2
                rw [uh ANS]
                exact ⟨rfl, uh BB⟩
              ·as_aux_lemma =>
                go_simp
                obtain ⟨ws9, hX⟩ : ∃ X, X = (ws8.alloc (.cells ([.int .u8 e.how, .int .u8 e.bits] : List Value).toArray 5)) := ⟨_, rfl⟩
                rw [← hX]
                have K2x : HasObj ws9 ws8.heap.size 5 [.int .u8 e.how, .int .u8 e.bits] := by rw [hX]; exact HasObj.new _ _ _
                have hbn : Below ws8.heap.size ws8 ws9 := by rw [hX]; exact (Below.refl ws8.heap.size ws8).alloc (Nat.le_refl _) _
                clear hX; replace A := hide ((uh A).ups hbn); replace RS := hide ((uh RS).up hbn); have sz10 := hide (hbn.size); replace BB := hide (below_y (uh BB) hbn); clear hbn; have K2 := hide K2x; clear K2x
                refine hK.out _ _ (⟨(uh A).cell 0 rfl, (uh A).cell 1 rfl, (uh A).cell 2 rfl, (uh A).cell 3 rfl, (uh A).cell 4 rfl, (uh A).cell 5 rfl, (uh A).cell 6 rfl, (uh A).cell 7 rfl⟩) (fun hHeld2 => ?_)
                clear hK K hHeld; have hHeld := hHeld2; clear hHeld2
                try simp only [Act.put, p1, p2, p3]
                refine heldMore (fun w' => w'.cell? ⟨ws8.heap.size, 1, none⟩ = some (.int .u8 e.bits)) ((uh K2).cell 1 rfl) hHeld (fun hHeld2 => ?_)
                clear hHeld; have hHeld := hHeld2; clear hHeld2
                refine heldMore (fun w' => w'.cell? ⟨ws8.heap.size, 0, none⟩ = some (.int .u8 e.how)) ((uh K2).cell 0 rfl) hHeld (fun hHeld2 => ?_)
                clear hHeld; have hHeld := hHeld2; clear hHeld2; have K2v := CV2 (ws8.heap.size)
                refine tv 25 32 ?_
                clear K2v
                refine wpAnyH_ready (rs := [3]) (by kernel_rfl) (by simp) ?_
                refine (AllReadyH.cons rfl (fun K hK => ?_) AllReadyH.nil)
                go_simp
                obtain ⟨ws10, hX⟩ : ∃ X, X = (ws9.alloc (.cells ([.int .u8 e.kind] : List Value).toArray 5)) := ⟨_, rfl⟩
                rw [← hX]
                have K1x : HasObj ws10 ws9.heap.size 5 [.int .u8 e.kind] := by rw [hX]; exact HasObj.new _ _ _
                have hbn : Below ws9.heap.size ws9 ws10 := by rw [hX]; exact (Below.refl ws9.heap.size ws9).alloc (Nat.le_refl _) _
                clear hX; replace A := hide ((uh A).ups hbn); replace K2 := hide ((uh K2).ups hbn); replace RS := hide ((uh RS).up hbn); have sz11 := hide (hbn.size); replace BB := hide (below_y (uh BB) hbn); clear hbn; have K1 := hide K1x; clear K1x
                refine hK.out _ _ (⟨(uh K2).cell 0 rfl, (uh K2).cell 1 rfl, (uh A).cell 0 rfl, (uh A).cell 1 rfl, (uh A).cell 2 rfl, (uh A).cell 3 rfl, (uh A).cell 4 rfl, (uh A).cell 5 rfl, (uh A).cell 6 rfl, (uh A).cell 7 rfl⟩) (fun hHeld2 => ?_)
                clear hK K hHeld; have hHeld := hHeld2; clear hHeld2
                try simp only [Act.put, p1, p2, p3]
                refine heldMore (fun w' => w'.cell? ⟨ws9.heap.size, 0, none⟩ = some (.int .u8 e.kind)) ((uh K1).cell 0 rfl) hHeld (fun hHeld2 => ?_)
                clear hHeld; have hHeld := hHeld2; clear hHeld2; have K1v := CV1 (ws9.heap.size)
                refine tv 4 11 ?_
                clear K1v
                refine tv 8 15 ?_; refine tv 12 19 ?_; refine tv 17 24 ?_; refine tv 26 33 ?_; refine tv 31 38 ?_; refine tv 35 42 ?_; refine tv 36 2 ?_; refine tv 37 3 ?_
                refine wpAnyH_done (by kernel_rfl) ?_ _
                go_wp2
                go_ret2
                rw [uh ANS]
                exact ⟨rfl, uh BB⟩
        ·as_aux_lemma =>
          go_simp
          obtain ⟨ws6, hX⟩ : ∃ X, X = (ws5.alloc (.cells ([.int .u8 e.how, .int .u8 e.bits] : List Value).toArray 5)) := ⟨_, rfl⟩
          rw [← hX]
          have K2x : HasObj ws6 ws5.heap.size 5 [.int .u8 e.how, .int .u8 e.bits] := by rw [hX]; exact HasObj.new _ _ _
          have hbn : Below ws5.heap.size ws5 ws6 := by rw [hX]; exact (Below.refl ws5.heap.size ws5).alloc (Nat.le_refl _) _
          clear hX; replace A := hide ((uh A).ups hbn); replace RS := hide ((uh RS).up hbn); have sz7 := hide (hbn.size); replace BB := hide (below_y (uh BB) hbn); clear hbn; have K2 := hide K2x; clear K2x
          refine hK.out _ _ (⟨(uh A).cell 0 rfl, (uh A).cell 1 rfl, (uh A).cell 2 rfl, (uh A).cell 3 rfl, (uh A).cell 4 rfl, (uh A).cell 5 rfl, (uh A).cell 6 rfl, (uh A).cell 7 rfl⟩) (fun hHeld2 => ?_)
          clear hK K hHeld; have hHeld := hHeld2; clear hHeld2
          try simp only [Act.put, p1, p2, p3]
          refine heldMore (fun w' => w'.cell? ⟨ws5.heap.size, 1, none⟩ = some (.int .u8 e.bits)) ((uh K2).cell 1 rfl) hHeld (fun hHeld2 => ?_)
          clear hHeld; have hHeld := hHeld2; clear hHeld2
          refine heldMore (fun w' => w'.cell? ⟨ws5.heap.size, 0, none⟩ = some (.int .u8 e.how)) ((uh K2).cell 0 rfl) hHeld (fun hHeld2 => ?_)
          clear hHeld; have hHeld := hHeld2; clear hHeld2; have K2v := CV2 (ws5.heap.size)
          refine tv 25 32 ?_
          clear K2v
          refine wpAnyH_ready (rs := [3, 16]) (by kernel_rfl) (by simp) ?_
          refine (AllReadyH.cons rfl (fun K hK => ?_) (AllReadyH.cons rfl (fun K hK => ?_) AllReadyH.nil))
          ·as_aux_lemma =>
            go_simp
            obtain ⟨ws7, hX⟩ : ∃ X, X = (ws6.alloc (.cells ([.int .u8 e.kind] : List Value).toArray 5)) := ⟨_, rfl⟩
            rw [← hX]
            have K1x : HasObj ws7 ws6.heap.size 5 [.int .u8 e.kind] := by rw [hX]; exact HasObj.new _ _ _
            have hbn : Below ws6.heap.size ws6 ws7 := by rw [hX]; exact (Below.refl ws6.heap.size ws6).alloc (Nat.le_refl _) _
            clear hX; replace A := hide ((uh A).ups hbn); replace K2 := hide ((uh K2).ups hbn); replace RS := hide ((uh RS).up hbn); have sz8 := hide (hbn.size); replace BB := hide (below_y (uh BB) hbn); clear hbn; have K1 := hide K1x; clear K1x
            refine hK.out _ _ (⟨(uh K2).cell 0 rfl, (uh K2).cell 1 rfl, (uh A).cell 0 rfl, (uh A).cell 1 rfl, (uh A).cell 2 rfl, (uh A).cell 3 rfl, (uh A).cell 4 rfl, (uh A).cell 5 rfl, (uh A).cell 6 rfl, (uh A).cell 7 rfl⟩) (fun hHeld2 => ?_)
            clear hK K hHeld; have hHeld := hHeld2; clear hHeld2
            try simp only [Act.put, p1, p2, p3]
            refine heldMore (fun w' => w'.cell? ⟨ws6.heap.size, 0, none⟩ = some (.int .u8 e.kind)) ((uh K1).cell 0 rfl) hHeld (fun hHeld2 => ?_)
            clear hHeld; have hHeld := hHeld2; clear hHeld2; have K1v := CV1 (ws6.heap.size)
            refine tv 4 11 ?_
            clear K1v
            refine tv 8 15 ?_; refine tv 12 19 ?_
            refine wpAnyH_ready (rs := [16]) (by kernel_rfl) (by simp) ?_
            refine (AllReadyH.cons rfl (fun K hK => ?_) AllReadyH.nil)
            go_simp
            refine (shortS (stB e.set) _ (by have := st_size e.set; omega)).mono ?_
            rintro x ws8 ⟨rfl, hb⟩
            replace A := hide ((uh A).ups hb); replace K2 := hide ((uh K2).ups hb); replace K1 := hide ((uh K1).ups hb); replace RS := hide ((uh RS).up hb); have sz9 := hide (hb.size); replace BB := hide (below_y (uh BB) hb); clear hb; go_wp2_with fail
            refine hK.out _ _ (⟨(uh K1).cell 0 rfl, (uh K2).cell 0 rfl, (uh K2).cell 1 rfl, (uh A).cell 0 rfl, (uh A).cell 1 rfl, (uh A).cell 2 rfl, (uh A).cell 3 rfl, (uh A).cell 4 rfl, (uh A).cell 5 rfl, (uh A).cell 6 rfl, (uh A).cell 7 rfl⟩) (fun hHeld2 => ?_)
            clear hK K hHeld; have hHeld := hHeld2; clear hHeld2
            try simp only [Act.put, p1, p2, p3]
            refine tv 17 24 ?_; refine tv 26 33 ?_
            refine wpAnyH_ready (rs := [30]) (by kernel_rfl) (by simp) ?_
            refine (AllReadyH.cons rfl (fun K hK => ?_) AllReadyH.nil)
            go_simp
            refine (varS (e.since + 1) _ (by have := (uh EF).since; omega) (by have := (uh EF).since; omega)).mono ?_
            rintro x ws9 ⟨rfl, hb⟩
            replace A := hide ((uh A).ups hb); replace K2 := hide ((uh K2).ups hb); replace K1 := hide ((uh K1).ups hb); replace RS := hide ((uh RS).up hb); have sz10 := hide (hb.size); replace BB := hide (below_y (uh BB) hb); clear hb; go_wp2_with fail
            refine hK.out _ _ (⟨(uh K1).cell 0 rfl, (uh K2).cell 0 rfl, (uh K2).cell 1 rfl, (uh A).cell 0 rfl, (uh A).cell 1 rfl, (uh A).cell 2 rfl, (uh A).cell 3 rfl, (uh A).cell 4 rfl, (uh A).cell 5 rfl, (uh A).cell 6 rfl, (uh A).cell 7 rfl⟩) (fun hHeld2 => ?_)
            clear hK K hHeld; have hHeld := hHeld2; clear hHeld2
            try simp only [Act.put, p1, p2, p3]
            refine tv 31 38 ?_
            refine wpAnyH_ready (rs := [34]) (by kernel_rfl) (by simp) ?_
            refine (AllReadyH.cons rfl (fun K hK => ?_) AllReadyH.nil)
            go_simp
            refine (shortS e.text _ (by have := (uh EF).text; omega)).mono ?_
            rintro x ws10 ⟨rfl, hb⟩
            replace A := hide ((uh A).ups hb); replace K2 := hide ((uh K2).ups hb); replace K1 := hide ((uh K1).ups hb); replace RS := hide ((uh RS).up hb); have sz11 := hide (hb.size); replace BB := hide (below_y (uh BB) hb); clear hb; go_wp2_with fail
            refine hK.out _ _ (⟨(uh K1).cell 0 rfl, (uh K2).cell 0 rfl, (uh K2).cell 1 rfl, (uh A).cell 0 rfl, (uh A).cell 1 rfl, (uh A).cell 2 rfl, (uh A).cell 3 rfl, (uh A).cell 4 rfl, (uh A).cell 5 rfl, (uh A).cell 6 rfl, (uh A).cell 7 rfl⟩) (fun hHeld2 => ?_)
            clear hK K hHeld; have hHeld := hHeld2; clear hHeld2
            try simp only [Act.put, p1, p2, p3]
            refine tv 35 42 ?_; refine tv 36 2 ?_; refine tv 37 3 ?_
            refine wpAnyH_done (by kernel_rfl) ?_ _
            go_wp2
            go_ret2
            rw [uh ANS]
            exact ⟨rfl, uh BB⟩
          ·as_aux_lemma =>
            go_simp
            refine (shortS (stB e.set) _ (by have := st_size e.set; omega)).mono ?_
            rintro x ws7 ⟨rfl, hb⟩
            replace A := hide ((uh A).ups hb); replace K2 := hide ((uh K2).ups hb); replace RS := hide ((uh RS).up hb); have sz8 := hide (hb.size); replace BB := hide (below_y (uh BB) hb); clear hb; go_wp2_with fail
            refine hK.out _ _ (⟨(uh K2).cell 0 rfl, (uh K2).cell 1 rfl, (uh A).cell 0 rfl, (uh A).cell 1 rfl, (uh A).cell 2 rfl, (uh A).cell 3 rfl, (uh A).cell 4 rfl, (uh A).cell 5 rfl, (uh A).cell 6 rfl, (uh A).cell 7 rfl⟩) (fun hHeld2 => ?_)
            clear hK K hHeld; have hHeld := hHeld2; clear hHeld2
            try simp only [Act.put, p1, p2, p3]
            refine wpAnyH_ready (rs := [3, 30]) (by kernel_rfl) (by simp) ?_
            refine (AllReadyH.cons rfl (fun K hK => ?_) (AllReadyH.cons rfl (fun K hK => ?_) AllReadyH.nil))
            ·as_aux_lemma =>
              go_simp
              obtain ⟨ws8, hX⟩ : ∃ X, X = (ws7.alloc (.cells ([.int .u8 e.kind] : List Value).toArray 5)) := ⟨_, rfl⟩
              rw [← hX]
              have K1x : HasObj ws8 ws7.heap.size 5 [.int .u8 e.kind] := by rw [hX]; exact HasObj.new _ _ _
              have hbn : Below ws7.heap.size ws7 ws8 := by rw [hX]; exact (Below.refl ws7.heap.size ws7).alloc (Nat.le_refl _) _
              clear hX; replace A := hide ((uh A).ups hbn); replace K2 := hide ((uh K2).ups hbn); replace RS := hide ((uh RS).up hbn); have sz9 := hide (hbn.size); replace BB := hide (below_y (uh BB) hbn); clear hbn; have K1 := hide K1x; clear K1x
              refine hK.out _ _ (⟨(uh K2).cell 0 rfl, (uh K2).cell 1 rfl, (uh A).cell 0 rfl, (uh A).cell 1 rfl, (uh A).cell 2 rfl, (uh A).cell 3 rfl, (uh A).cell 4 rfl, (uh A).cell 5 rfl, (uh A).cell 6 rfl, (uh A).cell 7 rfl⟩) (fun hHeld2 => ?_)
              clear hK K hHeld; have hHeld := hHeld2; clear hHeld2
              try simp only [Act.put, p1, p2, p3]
              refine heldMore (fun w' => w'.cell? ⟨ws7.heap.size, 0, none⟩ = some (.int .u8 e.kind)) ((uh K1).cell 0 rfl) hHeld (fun hHeld2 => ?_)
              clear hHeld; have hHeld := hHeld2; clear hHeld2; have K1v := CV1 (ws7.heap.size)
              refine tv 4 11 ?_
              clear K1v
              refine tv 8 15 ?_; refine tv 12 19 ?_; refine tv 17 24 ?_; refine tv 26 33 ?_
              refine wpAnyH_ready (rs := [30]) (by kernel_rfl) (by simp) ?_
              refine (AllReadyH.cons rfl (fun K hK => ?_) AllReadyH.nil)
              go_simp
              refine (varS (e.since + 1) _ (by have := (uh EF).since; omega) (by have := (uh EF).since; omega)).mono ?_
              rintro x ws9 ⟨rfl, hb⟩
              replace A := hide ((uh A).ups hb); replace K2 := hide ((uh K2).ups hb); replace K1 := hide ((uh K1).ups hb); replace RS := hide ((uh RS).up hb); have sz10 := hide (hb.size); replace BB := hide (below_y (uh BB) hb); clear hb; go_wp2_with fail
              refine hK.out _ _ (⟨(uh K1).cell 0 rfl, (uh K2).cell 0 rfl, (uh K2).cell 1 rfl, (uh A).cell 0 rfl, (uh A).cell 1 rfl, (uh A).cell 2 rfl, (uh A).cell 3 rfl, (uh A).cell 4 rfl, (uh A).cell 5 rfl, (uh A).cell 6 rfl, (uh A).cell 7 rfl⟩) (fun hHeld2 => ?_)
              clear hK K hHeld; have hHeld := hHeld2; clear hHeld2
              try simp only [Act.put, p1, p2, p3]
              refine tv 31 38 ?_
              refine wpAnyH_ready (rs := [34]) (by kernel_rfl) (by simp) ?_
              refine (AllReadyH.cons rfl (fun K hK => ?_) AllReadyH.nil)
              go_simp
              refine (shortS e.text _ (by have := (uh EF).text; omega)).mono ?_
              rintro x ws10 ⟨rfl, hb⟩
              replace A := hide ((uh A).ups hb); replace K2 := hide ((uh K2).ups hb); replace K1 := hide ((uh K1).ups hb); replace RS := hide ((uh RS).up hb); have sz11 := hide (hb.size); replace BB := hide (below_y (uh BB) hb); clear hb; go_wp2_with fail
              refine hK.out _ _ (⟨(uh K1).cell 0 rfl, (uh K2).cell 0 rfl, (uh K2).cell 1 rfl, (uh A).cell 0 rfl, (uh A).cell 1 rfl, (uh A).cell 2 rfl, (uh A).cell 3 rfl, (uh A).cell 4 rfl, (uh A).cell 5 rfl, (uh A).cell 6 rfl, (uh A).cell 7 rfl⟩) (fun hHeld2 => ?_)
              clear hK K hHeld; have hHeld := hHeld2; clear hHeld2
              try simp only [Act.put, p1, p2, p3]
              refine tv 35 42 ?_; refine tv 36 2 ?_; refine tv 37 3 ?_
              refine wpAnyH_done (by kernel_rfl) ?_ _
              go_wp2
              go_ret2
              rw [uh ANS]
              exact ⟨rfl, uh BB⟩
            ·as_aux_lemma =>
              go_simp
              refine (varS (e.since + 1) _ (by have := (uh EF).since; omega) (by have := (uh EF).since; omega)).mono ?_
              rintro x ws8 ⟨rfl, hb⟩
              replace A := hide ((uh A).ups hb); replace K2 := hide ((uh K2).ups hb); replace RS := hide ((uh RS).up hb); have sz9 := hide (hb.size); replace BB := hide (below_y (uh BB) hb); clear hb; go_wp2_with fail
              refine hK.out _ _ (⟨(uh K2).cell 0 rfl, (uh K2).cell 1 rfl, (uh A).cell 0 rfl, (uh A).cell 1 rfl, (uh A).cell 2 rfl, (uh A).cell 3 rfl, (uh A).cell 4 rfl, (uh A).cell 5 rfl, (uh A).cell 6 rfl, (uh A).cell 7 rfl⟩) (fun hHeld2 => ?_)
              clear hK K hHeld; have hHeld := hHeld2; clear hHeld2
              try simp only [Act.put, p1, p2, p3]
              refine wpAnyH_ready (rs := [3, 34]) (by kernel_rfl) (by simp) ?_
              refine (AllReadyH.cons rfl (fun K hK => ?_) (AllReadyH.cons rfl (fun K hK => ?_) AllReadyH.nil))
              ·as_aux_lemma =>
                go_simp
                obtain ⟨ws9, hX⟩ : ∃ X, X = (ws8.alloc (.cells ([.int .u8 e.kind] : List Value).toArray 5)) := ⟨_, rfl⟩
                rw [← hX]
                have K1x : HasObj ws9 ws8.heap.size 5 [.int .u8 e.kind] := by rw [hX]; exact HasObj.new _ _ _
                have hbn : Below ws8.heap.size ws8 ws9 := by rw [hX]; exact (Below.refl ws8.heap.size ws8).alloc (Nat.le_refl _) _
                clear hX; replace A := hide ((uh A).ups hbn); replace K2 := hide ((uh K2).ups hbn); replace RS := hide ((uh RS).up hbn); have sz10 := hide (hbn.size); replace BB := hide (below_y (uh BB) hbn); clear hbn; have K1 := hide K1x; clear K1x
                refine hK.out _ _ (⟨(uh K2).cell 0 rfl, (uh K2).cell 1 rfl, (uh A).cell 0 rfl, (uh A).cell 1 rfl, (uh A).cell 2 rfl, (uh A).cell 3 rfl, (uh A).cell 4 rfl, (uh A).cell 5 rfl, (uh A).cell 6 rfl, (uh A).cell 7 rfl⟩) (fun hHeld2 => ?_)
                clear hK K hHeld; have hHeld := hHeld2; clear hHeld2
                try simp only [Act.put, p1, p2, p3]
                refine heldMore (fun w' => w'.cell? ⟨ws8.heap.size, 0, none⟩ = some (.int .u8 e.kind)) ((uh K1).cell 0 rfl) hHeld (fun hHeld2 => ?_)
                clear hHeld; have hHeld := hHeld2; clear hHeld2; have K1v := CV1 (ws8.heap.size)
                refine tv 4 11 ?_
                clear K1v
                refine tv 8 15 ?_; refine tv 12 19 ?_; refine tv 17 24 ?_; refine tv 26 33 ?_; refine tv 31 38 ?_
                refine wpAnyH_ready (rs := [34]) (by kernel_rfl) (by simp) ?_
                refine (AllReadyH.cons rfl (fun K hK => ?_) AllReadyH.nil)
                go_simp
                refine (shortS e.text _ (by have := (uh EF).text; omega)).mono ?_
                rintro x ws10 ⟨rfl, hb⟩
                replace A := hide ((uh A).ups hb); replace K2 := hide ((uh K2).ups hb); replace K1 := hide ((uh K1).ups hb); replace RS := hide ((uh RS).up hb); have sz11 := hide (hb.size); replace BB := hide (below_y (uh BB) hb); clear hb; go_wp2_with fail
                refine hK.out _ _ (⟨(uh K1).cell 0 rfl, (uh K2).cell 0 rfl, (uh K2).cell 1 rfl, (uh A).cell 0 rfl, (uh A).cell 1 rfl, (uh A).cell 2 rfl, (uh A).cell 3 rfl, (uh A).cell 4 rfl, (uh A).cell 5 rfl, (uh A).cell 6 rfl, (uh A).cell 7 rfl⟩) (fun hHeld2 => ?_)
                clear hK K hHeld; have hHeld := hHeld2; clear hHeld2
                try simp only [Act.put, p1, p2, p3]
                refine tv 35 42 ?_; refine tv 36 2 ?_; refine tv 37 3 ?_
                refine wpAnyH_done (by kernel_rfl) ?_ _
                go_wp2
                go_ret2
                rw [uh ANS]
                exact ⟨rfl, uh BB⟩
              ·as_aux_lemma =>
                go_simp
                refine (shortS e.text _ (by have := (uh EF).text; omega)).mono ?_
                rintro x ws9 ⟨rfl, hb⟩
                replace A := hide ((uh A).ups hb); replace K2 := hide ((uh K2).ups hb); replace RS := hide ((uh RS).up hb); have sz10 := hide (hb.size); replace BB := hide (below_y (uh BB) hb); clear hb; go_wp2_with fail
                refine hK.out _ _ (⟨(uh K2).cell 0 rfl, (uh K2).cell 1 rfl, (uh A).cell 0 rfl, (uh A).cell 1 rfl, (uh A).cell 2 rfl, (uh A).cell 3 rfl, (uh A).cell 4 rfl, (uh A).cell 5 rfl, (uh A).cell 6 rfl, (uh A).cell 7 rfl⟩) (fun hHeld2 => ?_)
                clear hK K hHeld; have hHeld := hHeld2; clear hHeld2
                try simp only [Act.put, p1, p2, p3]
                refine wpAnyH_ready (rs := [3]) (by kernel_rfl) (by simp) ?_
                refine (AllReadyH.cons rfl (fun K hK => ?_) AllReadyH.nil)
                go_simp
                obtain ⟨ws10, hX⟩ : ∃ X, X = (ws9.alloc (.cells ([.int .u8 e.kind] : List Value).toArray 5)) := ⟨_, rfl⟩
                rw [← hX]
                have K1x : HasObj ws10 ws9.heap.size 5 [.int .u8 e.kind] := by rw [hX]; exact HasObj.new _ _ _
                have hbn : Below ws9.heap.size ws9 ws10 := by rw [hX]; exact (Below.refl ws9.heap.size ws9).alloc (Nat.le_refl _) _
                clear hX; replace A := hide ((uh A).ups hbn); replace K2 := hide ((uh K2).ups hbn); replace RS := hide ((uh RS).up hbn); have sz11 := hide (hbn.size); replace BB := hide (below_y (uh BB) hbn); clear hbn; have K1 := hide K1x; clear K1x
                refine hK.out _ _ (⟨(uh K2).cell 0 rfl, (uh K2).cell 1 rfl, (uh A).cell 0 rfl, (uh A).cell 1 rfl, (uh A).cell 2 rfl, (uh A).cell 3 rfl, (uh A).cell 4 rfl, (uh A).cell 5 rfl, (uh A).cell 6 rfl, (uh A).cell 7 rfl⟩) (fun hHeld2 => ?_)
                clear hK K hHeld; have hHeld := hHeld2; clear hHeld2
                try simp only [Act.put, p1, p2, p3]
                refine heldMore (fun w' => w'.cell? ⟨ws9.heap.size, 0, none⟩ = some (.int .u8 e.kind)) ((uh K1).cell 0 rfl) hHeld (fun hHeld2 => ?_)
                clear hHeld; have hHeld := hHeld2; clear hHeld2; have K1v := CV1 (ws9.heap.size)
                refine tv 4 11 ?_
                clear K1v
                refine tv 8 15 ?_; refine tv 12 19 ?_; refine tv 17 24 ?_; refine tv 26 33 ?_; refine tv 31 38 ?_; refine tv 35 42 ?_; refine tv 36 2 ?_; refine tv 37 3 ?_
                refine wpAnyH_done (by kernel_rfl) ?_ _
                go_wp2
                go_ret2
                rw [uh ANS]
                exact ⟨rfl, uh BB⟩
      ·as_aux_lemma =>
        go_simp
        obtain ⟨ws5, hX⟩ : ∃ X, X = (ws4.alloc (.cells ([.int .u8 e.how, .int .u8 e.bits] : List Value).toArray 5)) := ⟨_, rfl⟩
        rw [← hX]
        have K2x : HasObj ws5 ws4.heap.size 5 [.int .u8 e.how, .int .u8 e.bits] := by rw [hX]; exact HasObj.new _ _ _
        have hbn : Below ws4.heap.size ws4 ws5 := by rw [hX]; exact (Below.refl ws4.heap.size ws4).alloc (Nat.le_refl _) _
        clear hX; replace A := hide ((uh A).ups hbn); replace RS := hide ((uh RS).up hbn); have sz6 := hide (hbn.size); replace BB := hide (below_y (uh BB) hbn); clear hbn; have K2 := hide K2x; clear K2x
        refine hK.out _ _ (⟨(uh A).cell 0 rfl, (uh A).cell 1 rfl, (uh A).cell 2 rfl, (uh A).cell 3 rfl, (uh A).cell 4 rfl, (uh A).cell 5 rfl, (uh A).cell 6 rfl, (uh A).cell 7 rfl⟩) (fun hHeld2 => ?_)
        clear hK K hHeld; have hHeld := hHeld2; clear hHeld2
        try simp only [Act.put, p1, p2, p3]
        refine heldMore (fun w' => w'.cell? ⟨ws4.heap.size, 1, none⟩ = some (.int .u8 e.bits)) ((uh K2).cell 1 rfl) hHeld (fun hHeld2 => ?_)
        clear hHeld; have hHeld := hHeld2; clear hHeld2
        refine heldMore (fun w' => w'.cell? ⟨ws4.heap.size, 0, none⟩ = some (.int .u8 e.how)) ((uh K2).cell 0 rfl) hHeld (fun hHeld2 => ?_)
        clear hHeld; have hHeld := hHeld2; clear hHeld2; have K2v := CV2 (ws4.heap.size)
        refine tv 25 32 ?_
        clear K2v
        refine wpAnyH_ready (rs := [3, 15]) (by kernel_rfl) (by simp) ?_
        refine (AllReadyH.cons rfl (fun K hK => ?_) (AllReadyH.cons rfl (fun K hK => ?_) AllReadyH.nil))
        ·as_aux_lemma =>
          go_simp
          obtain ⟨ws6, hX⟩ : ∃ X, X = (ws5.alloc (.cells ([.int .u8 e.kind] : List Value).toArray 5)) := ⟨_, rfl⟩
          rw [← hX]
          have K1x : HasObj ws6 ws5.heap.size 5 [.int .u8 e.kind] := by rw [hX]; exact HasObj.new _ _ _
          have hbn : Below ws5.heap.size ws5 ws6 := by rw [hX]; exact (Below.refl ws5.heap.size ws5).alloc (Nat.le_refl _) _
          clear hX; replace A := hide ((uh A).ups hbn); replace K2 := hide ((uh K2).ups hbn); replace RS := hide ((uh RS).up hbn); have sz7 := hide (hbn.size); replace BB := hide (below_y (uh BB) hbn); clear hbn; have K1 := hide K1x; clear K1x
          refine hK.out _ _ (⟨(uh K2).cell 0 rfl, (uh K2).cell 1 rfl, (uh A).cell 0 rfl, (uh A).cell 1 rfl, (uh A).cell 2 rfl, (uh A).cell 3 rfl, (uh A).cell 4 rfl, (uh A).cell 5 rfl, (uh A).cell 6 rfl, (uh A).cell 7 rfl⟩) (fun hHeld2 => ?_)
          clear hK K hHeld; have hHeld := hHeld2; clear hHeld2
          try simp only [Act.put, p1, p2, p3]
          refine heldMore (fun w' => w'.cell? ⟨ws5.heap.size, 0, none⟩ = some (.int .u8 e.kind)) ((uh K1).cell 0 rfl) hHeld (fun hHeld2 => ?_)
          clear hHeld; have hHeld := hHeld2; clear hHeld2; have K1v := CV1 (ws5.heap.size)
          refine tv 4 11 ?_
          clear K1v
          refine tv 8 15 ?_; refine tv 12 19 ?_
          refine wpAnyH_ready (rs := [15]) (by kernel_rfl) (by simp) ?_
          refine (AllReadyH.cons rfl (fun K hK => ?_) AllReadyH.nil)
          go_simp
          refine (setS e.set _ _ _ (uh SM).set (uh RS)).mono ?_
          rintro x ws7 ⟨rfl, hb⟩
          replace A := hide ((uh A).ups hb); replace K2 := hide ((uh K2).ups hb); replace K1 := hide ((uh K1).ups hb); replace RS := hide ((uh RS).up hb); have sz8 := hide (hb.size); replace BB := hide (below_y (uh BB) hb); clear hb; go_wp2_with fail
          refine hK.out _ _ (⟨(uh K1).cell 0 rfl, (uh K2).cell 0 rfl, (uh K2).cell 1 rfl, (uh A).cell 0 rfl, (uh A).cell 1 rfl, (uh A).cell 2 rfl, (uh A).cell 3 rfl, (uh A).cell 4 rfl, (uh A).cell 5 rfl, (uh A).cell 6 rfl, (uh A).cell 7 rfl⟩) (fun hHeld2 => ?_)
          clear hK K hHeld; have hHeld := hHeld2; clear hHeld2
          try simp only [Act.put, p1, p2, p3]
          refine wpAnyH_ready (rs := [16]) (by kernel_rfl) (by simp) ?_
          refine (AllReadyH.cons rfl (fun K hK => ?_) AllReadyH.nil)
          go_simp
          refine (shortS (stB e.set) _ (by have := st_size e.set; omega)).mono ?_
          rintro x ws8 ⟨rfl, hb⟩
          replace A := hide ((uh A).ups hb); replace K2 := hide ((uh K2).ups hb); replace K1 := hide ((uh K1).ups hb); replace RS := hide ((uh RS).up hb); have sz9 := hide (hb.size); replace BB := hide (below_y (uh BB) hb); clear hb; go_wp2_with fail
          refine hK.out _ _ (⟨(uh K1).cell 0 rfl, (uh K2).cell 0 rfl, (uh K2).cell 1 rfl, (uh A).cell 0 rfl, (uh A).cell 1 rfl, (uh A).cell 2 rfl, (uh A).cell 3 rfl, (uh A).cell 4 rfl, (uh A).cell 5 rfl, (uh A).cell 6 rfl, (uh A).cell 7 rfl⟩) (fun hHeld2 => ?_)
          clear hK K hHeld; have hHeld := hHeld2; clear hHeld2
          try simp only [Act.put, p1, p2, p3]
          refine tv 17 24 ?_; refine tv 26 33 ?_
          refine wpAnyH_ready (rs := [30]) (by kernel_rfl) (by simp) ?_
          refine (AllReadyH.cons rfl (fun K hK => ?_) AllReadyH.nil)
          go_simp
          refine (varS (e.since + 1) _ (by have := (uh EF).since; omega) (by have := (uh EF).since; omega)).mono ?_
          rintro x ws9 ⟨rfl, hb⟩
          replace A := hide ((uh A).ups hb); replace K2 := hide ((uh K2).ups hb); replace K1 := hide ((uh K1).ups hb); replace RS := hide ((uh RS).up hb); have sz10 := hide (hb.size); replace BB := hide (below_y (uh BB) hb); clear hb; go_wp2_with fail
          refine hK.out _ _ (⟨(uh K1).cell 0 rfl, (uh K2).cell 0 rfl, (uh K2).cell 1 rfl, (uh A).cell 0 rfl, (uh A).cell 1 rfl, (uh A).cell 2 rfl, (uh A).cell 3 rfl, (uh A).cell 4 rfl, (uh A).cell 5 rfl, (uh A).cell 6 rfl, (uh A).cell 7 rfl⟩) (fun hHeld2 => ?_)
          clear hK K hHeld; have hHeld := hHeld2; clear hHeld2
          try simp only [Act.put, p1, p2, p3]
          refine tv 31 38 ?_
          refine wpAnyH_ready (rs := [34]) (by kernel_rfl) (by simp) ?_
          refine (AllReadyH.cons rfl (fun K hK => ?_) AllReadyH.nil)
          go_simp
          refine (shortS e.text _ (by have := (uh EF).text; omega)).mono ?_
          rintro x ws10 ⟨rfl, hb⟩
          replace A := hide ((uh A).ups hb); replace K2 := hide ((uh K2).ups hb); replace K1 := hide ((uh K1).ups hb); replace RS := hide ((uh RS).up hb); have sz11 := hide (hb.size); replace BB := hide (below_y (uh BB) hb); clear hb; go_wp2_with fail
          refine hK.out _ _ (⟨(uh K1).cell 0 rfl, (uh K2).cell 0 rfl, (uh K2).cell 1 rfl, (uh A).cell 0 rfl, (uh A).cell 1 rfl, (uh A).cell 2 rfl, (uh A).cell 3 rfl, (uh A).cell 4 rfl, (uh A).cell 5 rfl, (uh A).cell 6 rfl, (uh A).cell 7 rfl⟩) (fun hHeld2 => ?_)
          clear hK K hHeld; have hHeld := hHeld2; clear hHeld2
          try simp only [Act.put, p1, p2, p3]
          refine tv 35 42 ?_; refine tv 36 2 ?_; refine tv 37 3 ?_
          refine wpAnyH_done (by kernel_rfl) ?_ _
          go_wp2
          go_ret2
          rw [uh ANS]
          exact ⟨rfl, uh BB⟩
        ·as_aux_lemma =>
          go_simp
          refine (setS e.set _ _ _ (uh SM).set (uh RS)).mono ?_
          rintro x ws6 ⟨rfl, hb⟩
          replace A := hide ((uh A).ups hb); replace K2 := hide ((uh K2).ups hb); replace RS := hide ((uh RS).up hb); have sz7 := hide (hb.size); replace BB := hide (below_y (uh BB) hb); clear hb; go_wp2_with fail
          refine hK.out _ _ (⟨(uh K2).cell 0 rfl, (uh K2).cell 1 rfl, (uh A).cell 0 rfl, (uh A).cell 1 rfl, (uh A).cell 2 rfl, (uh A).cell 3 rfl, (uh A).cell 4 rfl, (uh A).cell 5 rfl, (uh A).cell 6 rfl, (uh A).cell 7 rfl⟩) (fun hHeld2 => ?_)
          clear hK K hHeld; have hHeld := hHeld2; clear hHeld2
          try simp only [Act.put, p1, p2, p3]
          refine wpAnyH_ready (rs := [3, 16]) (by kernel_rfl) (by simp) ?_
          refine (AllReadyH.cons rfl (fun K hK => ?_) (AllReadyH.cons rfl (fun K hK => ?_) AllReadyH.nil))
          ·as_aux_lemma =>
            go_simp
            obtain ⟨ws7, hX⟩ : ∃ X, X = (ws6.alloc (.cells ([.int .u8 e.kind] : List Value).toArray 5)) := ⟨_, rfl⟩
            rw [← hX]
            have K1x : HasObj ws7 ws6.heap.size 5 [.int .u8 e.kind] := by rw [hX]; exact HasObj.new _ _ _
            have hbn : Below ws6.heap.size ws6 ws7 := by rw [hX]; exact (Below.refl ws6.heap.size ws6).alloc (Nat.le_refl _) _
            clear hX; replace A := hide ((uh A).ups hbn); replace K2 := hide ((uh K2).ups hbn); replace RS := hide ((uh RS).up hbn); have sz8 := hide (hbn.size); replace BB := hide (below_y (uh BB) hbn); clear hbn; have K1 := hide K1x; clear K1x
            refine hK.out _ _ (⟨(uh K2).cell 0 rfl, (uh K2).cell 1 rfl, (uh A).cell 0 rfl, (uh A).cell 1 rfl, (uh A).cell 2 rfl, (uh A).cell 3 rfl, (uh A).cell 4 rfl, (uh A).cell 5 rfl, (uh A).cell 6 rfl, (uh A).cell 7 rfl⟩) (fun hHeld2 => ?_)
            clear hK K hHeld; have hHeld := hHeld2; clear hHeld2
            try simp only [Act.put, p1, p2, p3]
            refine heldMore (fun w' => w'.cell? ⟨ws6.heap.size, 0, none⟩ = some (.int .u8 e.kind)) ((uh K1).cell 0 rfl) hHeld (fun hHeld2 => ?_)
            clear hHeld; have hHeld := hHeld2; clear hHeld2; have K1v := CV1 (ws6.heap.size)
            refine tv 4 11 ?_
            clear K1v
            refine tv 8 15 ?_; refine tv 12 19 ?_
            refine wpAnyH_ready (rs := [16]) (by kernel_rfl) (by simp) ?_
            refine (AllReadyH.cons rfl (fun K hK => ?_) AllReadyH.nil)
            go_simp
            refine (shortS (stB e.set) _ (by have := st_size e.set; omega)).mono ?_
            rintro x ws8 ⟨rfl, hb⟩
            replace A := hide ((uh A).ups hb); replace K2 := hide ((uh K2).ups hb); replace K1 := hide ((uh K1).ups hb); replace RS := hide ((uh RS).up hb); have sz9 := hide (hb.size); replace BB := hide (below_y (uh BB) hb); clear hb; go_wp2_with fail
            refine hK.out _ _ (⟨(uh K1).cell 0 rfl, (uh K2).cell 0 rfl, (uh K2).cell 1 rfl, (uh A).cell 0 rfl, (uh A).cell 1 rfl, (uh A).cell 2 rfl, (uh A).cell 3 rfl, (uh A).cell 4 rfl, (uh A).cell 5 rfl, (uh A).cell 6 rfl, (uh A).cell 7 rfl⟩) (fun hHeld2 => ?_)
            clear hK K hHeld; have hHeld := hHeld2; clear hHeld2
            try simp only [Act.put, p1, p2, p3]
            refine tv 17 24 ?_; refine tv 26 33 ?_
            refine wpAnyH_ready (rs := [30]) (by kernel_rfl) (by simp) ?_
            refine (AllReadyH.cons rfl (fun K hK => ?_) AllReadyH.nil)
            go_simp
            refine (varS (e.since + 1) _ (by have := (uh EF).since; omega) (by have := (uh EF).since; omega)).mono ?_
            rintro x ws9 ⟨rfl, hb⟩
            replace A := hide ((uh A).ups hb); replace K2 := hide ((uh K2).ups hb); replace K1 := hide ((uh K1).ups hb); replace RS := hide ((uh RS).up hb); have sz10 := hide (hb.size); replace BB := hide (below_y (uh BB) hb); clear hb; go_wp2_with fail
            refine hK.out _ _ (⟨(uh K1).cell 0 rfl, (uh K2).cell 0 rfl, (uh K2).cell 1 rfl, (uh A).cell 0 rfl, (uh A).cell 1 rfl, (uh A).cell 2 rfl, (uh A).cell 3 rfl, (uh A).cell 4 rfl, (uh A).cell 5 rfl, (uh A).cell 6 rfl, (uh A).cell 7 rfl⟩) (fun hHeld2 => ?_)
            clear hK K hHeld; have hHeld := hHeld2; clear hHeld2
            try simp only [Act.put, p1, p2, p3]
            refine tv 31 38 ?_
            refine wpAnyH_ready (rs := [34]) (by kernel_rfl) (by simp) ?_
            refine (AllReadyH.cons rfl (fun K hK => ?_) AllReadyH.nil)
            go_simp
            refine (shortS e.text _ (by have := (uh EF).text; omega)).mono ?_
            rintro x ws10 ⟨rfl, hb⟩
            replace A := hide ((uh A).ups hb); replace K2 := hide ((uh K2).ups hb); replace K1 := hide ((uh K1).ups hb); replace RS := hide ((uh RS).up hb); have sz11 := hide (hb.size); replace BB := hide (below_y (uh BB) hb); clear hb; go_wp2_with fail
            refine hK.out _ _ (⟨(uh K1).cell 0 rfl, (uh K2).cell 0 rfl, (uh K2).cell 1 rfl, (uh A).cell 0 rfl, (uh A).cell 1 rfl, (uh A).cell 2 rfl, (uh A).cell 3 rfl, (uh A).cell 4 rfl, (uh A).cell 5 rfl, (uh A).cell 6 rfl, (uh A).cell 7 rfl⟩) (fun hHeld2 => ?_)
            clear hK K hHeld; have hHeld := hHeld2; clear hHeld2
            try simp only [Act.put, p1, p2, p3]
            refine tv 35 42 ?_; refine tv 36 2 ?_; refine tv 37 3 ?_
            refine wpAnyH_done (by kernel_rfl) ?_ _
            go_wp2
            go_ret2
            rw [uh ANS]
            exact ⟨rfl, uh BB⟩
          ·as_aux_lemma =>
            go_simp
            refine (shortS (stB e.set) _ (by have := st_size e.set; omega)).mono ?_
            rintro x ws7 ⟨rfl, hb⟩
            replace A := hide ((uh A).ups hb); replace K2 := hide ((uh K2).ups hb); replace RS := hide ((uh RS).up hb); have sz8 := hide (hb.size); replace BB := hide (below_y (uh BB) hb); clear hb; go_wp2_with fail
            refine hK.out _ _ (⟨(uh K2).cell 0 rfl, (uh K2).cell 1 rfl, (uh A).cell 0 rfl, (uh A).cell 1 rfl, (uh A).cell 2 rfl, (uh A).cell 3 rfl, (uh A).cell 4 rfl, (uh A).cell 5 rfl, (uh A).cell 6 rfl, (uh A).cell 7 rfl⟩) (fun hHeld2 => ?_)
            clear hK K hHeld; have hHeld := hHeld2; clear hHeld2
            try simp only [Act.put, p1, p2, p3]
            refine wpAnyH_ready (rs := [3, 30]) (by kernel_rfl) (by simp) ?_
            refine (AllReadyH.cons rfl (fun K hK => ?_) (AllReadyH.cons rfl (fun K hK => ?_) AllReadyH.nil))
            ·as_aux_lemma =>
              go_simp
              obtain ⟨ws8, hX⟩ : ∃ X, X = (ws7.alloc (.cells ([.int .u8 e.kind] : List Value).toArray 5)) := ⟨_, rfl⟩
              rw [← hX]
              have K1x : HasObj ws8 ws7.heap.size 5 [.int .u8 e.kind] := by rw [hX]; exact HasObj.new _ _ _
              have hbn : Below ws7.heap.size ws7 ws8 := by rw [hX]; exact (Below.refl ws7.heap.size ws7).alloc (Nat.le_refl _) _
              clear hX; replace A := hide ((uh A).ups hbn); replace K2 := hide ((uh K2).ups hbn); replace RS := hide ((uh RS).up hbn); have sz9 := hide (hbn.size); replace BB := hide (below_y (uh BB) hbn); clear hbn; have K1 := hide K1x; clear K1x
              refine hK.out _ _ (⟨(uh K2).cell 0 rfl, (uh K2).cell 1 rfl, (uh A).cell 0 rfl, (uh A).cell 1 rfl, (uh A).cell 2 rfl, (uh A).cell 3 rfl, (uh A).cell 4 rfl, (uh A).cell 5 rfl, (uh A).cell 6 rfl, (uh A).cell 7 rfl⟩) (fun hHeld2 => ?_)
              clear hK K hHeld; have hHeld := hHeld2; clear hHeld2
              try simp only [Act.put, p1, p2, p3]
              refine heldMore (fun w' => w'.cell? ⟨ws7.heap.size, 0, none⟩ = some (.int .u8 e.kind)) ((uh K1).cell 0 rfl) hHeld (fun hHeld2 => ?_)
              clear hHeld; have hHeld := hHeld2; clear hHeld2; have K1v := CV1 (ws7.heap.size)
              refine tv 4 11 ?_
              clear K1v
              refine tv 8 15 ?_; refine tv 12 19 ?_; refine tv 17 24 ?_; refine tv 26 33 ?_
              refine wpAnyH_ready (rs := [30]) (by kernel_rfl) (by simp) ?_
              refine (AllReadyH.cons rfl (fun K hK => ?_) AllReadyH.nil)
              go_simp
              refine (varS (e.since + 1) _ (by have := (uh EF).since; omega) (by have := (uh EF).since; omega)).mono ?_
              rintro x ws9 ⟨rfl, hb⟩
              replace A := hide ((uh A).ups hb); replace K2 := hide ((uh K2).ups hb); replace K1 := hide ((uh K1).ups hb); replace RS := hide ((uh RS).up hb); have sz10 := hide (hb.size); replace BB := hide (below_y (uh BB) hb); clear hb; go_wp2_with fail
              refine hK.out _ _ (⟨(uh K1).cell 0 rfl, (uh K2).cell 0 rfl, (uh K2).cell 1 rfl, (uh A).cell 0 rfl, (uh A).cell 1 rfl, (uh A).cell 2 rfl, (uh A).cell 3 rfl, (uh A).cell 4 rfl, (uh A).cell 5 rfl, (uh A).cell 6 rfl, (uh A).cell 7 rfl⟩) (fun hHeld2 => ?_)
              clear hK K hHeld; have hHeld := hHeld2; clear hHeld2
              try simp only [Act.put, p1, p2, p3]
              refine tv 31 38 ?_
              refine wpAnyH_ready (rs := [34]) (by kernel_rfl) (by simp) ?_
              refine (AllReadyH.cons rfl (fun K hK => ?_) AllReadyH.nil)
              go_simp
              refine (shortS e.text _ (by have := (uh EF).text; omega)).mono ?_
              rintro x ws10 ⟨rfl, hb⟩
              replace A := hide ((uh A).ups hb); replace K2 := hide ((uh K2).ups hb); replace K1 := hide ((uh K1).ups hb); replace RS := hide ((uh RS).up hb); have sz11 := hide (hb.size); replace BB := hide (below_y (uh BB) hb); clear hb; go_wp2_with fail
              refine hK.out _ _ (⟨(uh K1).cell 0 rfl, (uh K2).cell 0 rfl, (uh K2).cell 1 rfl, (uh A).cell 0 rfl, (uh A).cell 1 rfl, (uh A).cell 2 rfl, (uh A).cell 3 rfl, (uh A).cell 4 rfl, (uh A).cell 5 rfl, (uh A).cell 6 rfl, (uh A).cell 7 rfl⟩) (fun hHeld2 => ?_)
              clear hK K hHeld; have hHeld := hHeld2; clear hHeld2
              try simp only [Act.put, p1, p2, p3]
              refine tv 35 42 ?_; refine tv 36 2 ?_; refine tv 37 3 ?_
              refine wpAnyH_done (by kernel_rfl) ?_ _
              go_wp2
              go_ret2
              rw [uh ANS]
              exact ⟨rfl, uh BB⟩
            ·as_aux_lemma =>
              go_simp
              refine (varS (e.since + 1) _ (by have := (uh EF).since; omega) (by have := (uh EF).since; omega)).mono ?_
              rintro x ws8 ⟨rfl, hb⟩
              replace A := hide ((uh A).ups hb); replace K2 := hide ((uh K2).ups hb); replace RS := hide ((uh RS).up hb); have sz9 := hide (hb.size); replace BB := hide (below_y (uh BB) hb); clear hb; go_wp2_with fail
              refine hK.out _ _ (⟨(uh K2).cell 0 rfl, (uh K2).cell 1 rfl, (uh A).cell 0 rfl, (uh A).cell 1 rfl, (uh A).cell 2 rfl, (uh A).cell 3 rfl, (uh A).cell 4 rfl, (uh A).cell 5 rfl, (uh A).cell 6 rfl, (uh A).cell 7 rfl⟩) (fun hHeld2 => ?_)
              clear hK K hHeld; have hHeld := hHeld2; clear hHeld2
              try simp only [Act.put, p1, p2, p3]
              refine wpAnyH_ready (rs := [3, 34]) (by kernel_rfl) (by simp) ?_
              refine (AllReadyH.cons rfl (fun K hK => ?_) (AllReadyH.cons rfl (fun K hK => ?_) AllReadyH.nil))
              ·as_aux_lemma =>
                go_simp
                obtain ⟨ws9, hX⟩ : ∃ X, X = (ws8.alloc (.cells ([.int .u8 e.kind] : List Value).toArray 5)) := ⟨_, rfl⟩
                rw [← hX]
                have K1x : HasObj ws9 ws8.heap.size 5 [.int .u8 e.kind] := by rw [hX]; exact HasObj.new _ _ _
                have hbn : Below ws8.heap.size ws8 ws9 := by rw [hX]; exact (Below.refl ws8.heap.size ws8).alloc (Nat.le_refl _) _
                clear hX; replace A := hide ((uh A).ups hbn); replace K2 := hide ((uh K2).ups hbn); replace RS := hide ((uh RS).up hbn); have sz10 := hide (hbn.size); replace BB := hide (below_y (uh BB) hbn); clear hbn; have K1 := hide K1x; clear K1x
                refine hK.out _ _ (⟨(uh K2).cell 0 rfl, (uh K2).cell 1 rfl, (uh A).cell 0 rfl, (uh A).cell 1 rfl, (uh A).cell 2 rfl, (uh A).cell 3 rfl, (uh A).cell 4 rfl, (uh A).cell 5 rfl, (uh A).cell 6 rfl, (uh A).cell 7 rfl⟩) (fun hHeld2 => ?_)
                clear hK K hHeld; have hHeld := hHeld2; clear hHeld2
                try simp only [Act.put, p1, p2, p3]
                refine heldMore (fun w' => w'.cell? ⟨ws8.heap.size, 0, none⟩ = some (.int .u8 e.kind)) ((uh K1).cell 0 rfl) hHeld (fun hHeld2 => ?_)
                clear hHeld; have hHeld := hHeld2; clear hHeld2; have K1v := CV1 (ws8.heap.size)
                refine tv 4 11 ?_
                clear K1v
                refine tv 8 15 ?_; refine tv 12 19 ?_; refine tv 17 24 ?_; refine tv 26 33 ?_; refine tv 31 38 ?_
                refine wpAnyH_ready (rs := [34]) (by kernel_rfl) (by simp) ?_
                refine (AllReadyH.cons rfl (fun K hK => ?_) AllReadyH.nil)
                go_simp
                refine (shortS e.text _ (by have := (uh EF).text; omega)).mono ?_
                rintro x ws10 ⟨rfl, hb⟩
                replace A := hide ((uh A).ups hb); replace K2 := hide ((uh K2).ups hb); replace K1 := hide ((uh K1).ups hb); replace RS := hide ((uh RS).up hb); have sz11 := hide (hb.size); replace BB := hide (below_y (uh BB) hb); clear hb; go_wp2_with fail
                refine hK.out _ _ (⟨(uh K1).cell 0 rfl, (uh K2).cell 0 rfl, (uh K2).cell 1 rfl, (uh A).cell 0 rfl, (uh A).cell 1 rfl, (uh A).cell 2 rfl, (uh A).cell 3 rfl, (uh A).cell 4 rfl, (uh A).cell 5 rfl, (uh A).cell 6 rfl, (uh A).cell 7 rfl⟩) (fun hHeld2 => ?_)
                clear hK K hHeld; have hHeld := hHeld2; clear hHeld2
                try simp only [Act.put, p1, p2, p3]
                refine tv 35 42 ?_; refine tv 36 2 ?_; refine tv 37 3 ?_
                refine wpAnyH_done (by kernel_rfl) ?_ _
                go_wp2
                go_ret2
                rw [uh ANS]
                exact ⟨rfl, uh BB⟩
              ·as_aux_lemma =>
                go_simp
                refine (shortS e.text _ (by have := (uh EF).text; omega)).mono ?_
                rintro x ws9 ⟨rfl, hb⟩
                replace A := hide ((uh A).ups hb); replace K2 := hide ((uh K2).ups hb); replace RS := hide ((uh RS).up hb); have sz10 := hide (hb.size); replace BB := hide (below_y (uh BB) hb); clear hb; go_wp2_with fail
                refine hK.out _ _ (⟨(uh K2).cell 0 rfl, (uh K2).cell 1 rfl, (uh A).cell 0 rfl, (uh A).cell 1 rfl, (uh A).cell 2 rfl, (uh A).cell 3 rfl, (uh A).cell 4 rfl, (uh A).cell 5 rfl, (uh A).cell 6 rfl, (uh A).cell 7 rfl⟩) (fun hHeld2 => ?_)
                clear hK K hHeld; have hHeld := hHeld2; clear hHeld2
                try simp only [Act.put, p1, p2, p3]
                refine wpAnyH_ready (rs := [3]) (by kernel_rfl) (by simp) ?_
                refine (AllReadyH.cons rfl (fun K hK => ?_) AllReadyH.nil)
                go_simp
                obtain ⟨ws10, hX⟩ : ∃ X, X = (ws9.alloc (.cells ([.int .u8 e.kind] : List Value).toArray 5)) := ⟨_, rfl⟩
                rw [← hX]
                have K1x : HasObj ws10 ws9.heap.size 5 [.int .u8 e.kind] := by rw [hX]; exact HasObj.new _ _ _
                have hbn : Below ws9.heap.size ws9 ws10 := by rw [hX]; exact (Below.refl ws9.heap.size ws9).alloc (Nat.le_refl _) _
                clear hX; replace A := hide ((uh A).ups hbn); replace K2 := hide ((uh K2).ups hbn); replace RS := hide ((uh RS).up hbn); have sz11 := hide (hbn.size); replace BB := hide (below_y (uh BB) hbn); clear hbn; have K1 := hide K1x; clear K1x
                refine hK.out _ _ (⟨(uh K2).cell 0 rfl, (uh K2).cell 1 rfl, (uh A).cell 0 rfl, (uh A).cell 1 rfl, (uh A).cell 2 rfl, (uh A).cell 3 rfl, (uh A).cell 4 rfl, (uh A).cell 5 rfl, (uh A).cell 6 rfl, (uh A).cell 7 rfl⟩) (fun hHeld2 => ?_)
                clear hK K hHeld; have hHeld := hHeld2; clear hHeld2
                try simp only [Act.put, p1, p2, p3]
                refine heldMore (fun w' => w'.cell? ⟨ws9.heap.size, 0, none⟩ = some (.int .u8 e.kind)) ((uh K1).cell 0 rfl) hHeld (fun hHeld2 => ?_)
                clear hHeld; have hHeld := hHeld2; clear hHeld2; have K1v := CV1 (ws9.heap.size)
                refine tv 4 11 ?_
                clear K1v
                refine tv 8 15 ?_; refine tv 12 19 ?_; refine tv 17 24 ?_; refine tv 26 33 ?_; refine tv 31 38 ?_; refine tv 35 42 ?_; refine tv 36 2 ?_; refine tv 37 3 ?_
                refine wpAnyH_done (by kernel_rfl) ?_ _
                go_wp2
                go_ret2
                rw [uh ANS]
                exact ⟨rfl, uh BB⟩
    ·as_aux_lemma =>
      go_simp
      obtain ⟨ws4, hX⟩ : ∃ X, X = (ws3.alloc (.cells ([.int .u8 e.how, .int .u8 e.bits] : List Value).toArray 5)) := ⟨_, rfl⟩
      rw [← hX]
      have K2x : HasObj ws4 ws3.heap.size 5 [.int .u8 e.how, .int .u8 e.bits] := by rw [hX]; exact HasObj.new _ _ _
      have hbn : Below ws3.heap.size ws3 ws4 := by rw [hX]; exact (Below.refl ws3.heap.size ws3).alloc (Nat.le_refl _) _
      clear hX; replace A := hide ((uh A).ups hbn); replace RS := hide ((uh RS).up hbn); have sz5 := hide (hbn.size); replace BB := hide (below_y (uh BB) hbn); clear hbn; have K2 := hide K2x; clear K2x
      refine hK.out _ _ (⟨(uh A).cell 0 rfl, (uh A).cell 1 rfl, (uh A).cell 2 rfl, (uh A).cell 3 rfl, (uh A).cell 4 rfl, (uh A).cell 5 rfl, (uh A).cell 6 rfl, (uh A).cell 7 rfl⟩) (fun hHeld2 => ?_)
      clear hK K hHeld; have hHeld := hHeld2; clear hHeld2
      try simp only [Act.put, p1, p2, p3]
      refine heldMore (fun w' => w'.cell? ⟨ws3.heap.size, 1, none⟩ = some (.int .u8 e.bits)) ((uh K2).cell 1 rfl) hHeld (fun hHeld2 => ?_)
      clear hHeld; have hHeld := hHeld2; clear hHeld2
      refine heldMore (fun w' => w'.cell? ⟨ws3.heap.size, 0, none⟩ = some (.int .u8 e.how)) ((uh K2).cell 0 rfl) hHeld (fun hHeld2 => ?_)
      clear hHeld; have hHeld := hHeld2; clear hHeld2; have K2v := CV2 (ws3.heap.size)
      refine tv 25 32 ?_
      clear K2v
      refine wpAnyH_ready (rs := [3, 11]) (by kernel_rfl) (by simp) ?_
      refine (AllReadyH.cons rfl (fun K hK => ?_) (AllReadyH.cons rfl (fun K hK => ?_) AllReadyH.nil))
      ·as_aux_lemma =>
        go_simp
        obtain ⟨ws5, hX⟩ : ∃ X, X = (ws4.alloc (.cells ([.int .u8 e.kind] : List Value).toArray 5)) := ⟨_, rfl⟩
        rw [← hX]
        have K1x : HasObj ws5 ws4.heap.size 5 [.int .u8 e.kind] := by rw [hX]; exact HasObj.new _ _ _
        have hbn : Below ws4.heap.size ws4 ws5 := by rw [hX]; exact (Below.refl ws4.heap.size ws4).alloc (Nat.le_refl _) _
        clear hX; replace A := hide ((uh A).ups hbn); replace K2 := hide ((uh K2).ups hbn); replace RS := hide ((uh RS).up hbn); have sz6 := hide (hbn.size); replace BB := hide (below_y (uh BB) hbn); clear hbn; have K1 := hide K1x; clear K1x
        refine hK.out _ _ (⟨(uh K2).cell 0 rfl, (uh K2).cell 1 rfl, (uh A).cell 0 rfl, (uh A).cell 1 rfl, (uh A).cell 2 rfl, (uh A).cell 3 rfl, (uh A).cell 4 rfl, (uh A).cell 5 rfl, (uh A).cell 6 rfl, (uh A).cell 7 rfl⟩) (fun hHeld2 => ?_)
        clear hK K hHeld; have hHeld := hHeld2; clear hHeld2
        try simp only [Act.put, p1, p2, p3]
        refine heldMore (fun w' => w'.cell? ⟨ws4.heap.size, 0, none⟩ = some (.int .u8 e.kind)) ((uh K1).cell 0 rfl) hHeld (fun hHeld2 => ?_)
        clear hHeld; have hHeld := hHeld2; clear hHeld2; have K1v := CV1 (ws4.heap.size)
        refine tv 4 11 ?_
        clear K1v
        refine tv 8 15 ?_
        refine wpAnyH_ready (rs := [11]) (by kernel_rfl) (by simp) ?_
        refine (AllReadyH.cons rfl (fun K hK => ?_) AllReadyH.nil)
        go_simp
        refine (shortS e.dst _ (by have := (uh EF).dst; omega)).mono ?_
        rintro x ws6 ⟨rfl, hb⟩
        replace A := hide ((uh A).ups hb); replace K2 := hide ((uh K2).ups hb); replace K1 := hide ((uh K1).ups hb); replace RS := hide ((uh RS).up hb); have sz7 := hide (hb.size); replace BB := hide (below_y (uh BB) hb); clear hb; go_wp2_with fail
        refine hK.out _ _ (⟨(uh K1).cell 0 rfl, (uh K2).cell 0 rfl, (uh K2).cell 1 rfl, (uh A).cell 0 rfl, (uh A).cell 1 rfl, (uh A).cell 2 rfl, (uh A).cell 3 rfl, (uh A).cell 4 rfl, (uh A).cell 5 rfl, (uh A).cell 6 rfl, (uh A).cell 7 rfl⟩) (fun hHeld2 => ?_)
        clear hK K hHeld; have hHeld := hHeld2; clear hHeld2
        try simp only [Act.put, p1, p2, p3]
        refine tv 12 19 ?_
        refine wpAnyH_ready (rs := [15]) (by kernel_rfl) (by simp) ?_
        refine (AllReadyH.cons rfl (fun K hK => ?_) AllReadyH.nil)
        go_simp
        refine (setS e.set _ _ _ (uh SM).set (uh RS)).mono ?_
        rintro x ws7 ⟨rfl, hb⟩
        replace A := hide ((uh A).ups hb); replace K2 := hide ((uh K2).ups hb); replace K1 := hide ((uh K1).ups hb); replace RS := hide ((uh RS).up hb); have sz8 := hide (hb.size); replace BB := hide (below_y (uh BB) hb); clear hb; go_wp2_with fail
        refine hK.out _ _ (⟨(uh K1).cell 0 rfl, (uh K2).cell 0 rfl, (uh K2).cell 1 rfl, (uh A).cell 0 rfl, (uh A).cell 1 rfl, (uh A).cell 2 rfl, (uh A).cell 3 rfl, (uh A).cell 4 rfl, (uh A).cell 5 rfl, (uh A).cell 6 rfl, (uh A).cell 7 rfl⟩) (fun hHeld2 => ?_)
        clear hK K hHeld; have hHeld := hHeld2; clear hHeld2
        try simp only [Act.put, p1, p2, p3]
        refine wpAnyH_ready (rs := [16]) (by kernel_rfl) (by simp) ?_
        refine (AllReadyH.cons rfl (fun K hK => ?_) AllReadyH.nil)
        go_simp
        refine (shortS (stB e.set) _ (by have := st_size e.set; omega)).mono ?_
        rintro x ws8 ⟨rfl, hb⟩
        replace A := hide ((uh A).ups hb); replace K2 := hide ((uh K2).ups hb); replace K1 := hide ((uh K1).ups hb); replace RS := hide ((uh RS).up hb); have sz9 := hide (hb.size); replace BB := hide (below_y (uh BB) hb); clear hb; go_wp2_with fail
        refine hK.out _ _ (⟨(uh K1).cell 0 rfl, (uh K2).cell 0 rfl, (uh K2).cell 1 rfl, (uh A).cell 0 rfl, (uh A).cell 1 rfl, (uh A).cell 2 rfl, (uh A).cell 3 rfl, (uh A).cell 4 rfl, (uh A).cell 5 rfl, (uh A).cell 6 rfl, (uh A).cell 7 rfl⟩) (fun hHeld2 => ?_)
        clear hK K hHeld; have hHeld := hHeld2; clear hHeld2
        try simp only [Act.put, p1, p2, p3]
        refine tv 17 24 ?_; refine tv 26 33 ?_
        refine wpAnyH_ready (rs := [30]) (by kernel_rfl) (by simp) ?_
        refine (AllReadyH.cons rfl (fun K hK => ?_) AllReadyH.nil)
        go_simp
        refine (varS (e.since + 1) _ (by have := (uh EF).since; omega) (by have := (uh EF).since; omega)).mono ?_
        rintro x ws9 ⟨rfl, hb⟩
        replace A := hide ((uh A).ups hb); replace K2 := hide ((uh K2).ups hb); replace K1 := hide ((uh K1).ups hb); replace RS := hide ((uh RS).up hb); have sz10 := hide (hb.size); replace BB := hide (below_y (uh BB) hb); clear hb; go_wp2_with fail
        refine hK.out _ _ (⟨(uh K1).cell 0 rfl, (uh K2).cell 0 rfl, (uh K2).cell 1 rfl, (uh A).cell 0 rfl, (uh A).cell 1 rfl, (uh A).cell 2 rfl, (uh A).cell 3 rfl, (uh A).cell 4 rfl, (uh A).cell 5 rfl, (uh A).cell 6 rfl, (uh A).cell 7 rfl⟩) (fun hHeld2 => ?_)
        clear hK K hHeld; have hHeld := hHeld2; clear hHeld2
        try simp only [Act.put, p1, p2, p3]
        refine tv 31 38 ?_
        refine wpAnyH_ready (rs := [34]) (by kernel_rfl) (by simp) ?_
        refine (AllReadyH.cons rfl (fun K hK => ?_) AllReadyH.nil)
        go_simp
        refine (shortS e.text _ (by have := (uh EF).text; omega)).mono ?_
        rintro x ws10 ⟨rfl, hb⟩
        replace A := hide ((uh A).ups hb); replace K2 := hide ((uh K2).ups hb); replace K1 := hide ((uh K1).ups hb); replace RS := hide ((uh RS).up hb); have sz11 := hide (hb.size); replace BB := hide (below_y (uh BB) hb); clear hb; go_wp2_with fail
        refine hK.out _ _ (⟨(uh K1).cell 0 rfl, (uh K2).cell 0 rfl, (uh K2).cell 1 rfl, (uh A).cell 0 rfl, (uh A).cell 1 rfl, (uh A).cell 2 rfl, (uh A).cell 3 rfl, (uh A).cell 4 rfl, (uh A).cell 5 rfl, (uh A).cell 6 rfl, (uh A).cell 7 rfl⟩) (fun hHeld2 => ?_)
        clear hK K hHeld; have hHeld := hHeld2; clear hHeld2
        try simp only [Act.put, p1, p2, p3]
        refine tv 35 42 ?_; refine tv 36 2 ?_; refine tv 37 3 ?_
        refine wpAnyH_done (by kernel_rfl) ?_ _
        go_wp2
        go_ret2
        rw [uh ANS]
        exact ⟨rfl, uh BB⟩
      ·as_aux_lemma =>
        go_simp
        refine (shortS e.dst _ (by have := (uh EF).dst; omega)).mono ?_
        rintro x ws5 ⟨rfl, hb⟩
        replace A := hide ((uh A).ups hb); replace K2 := hide ((uh K2).ups hb); replace RS := hide ((uh RS).up hb); have sz6 := hide (hb.size); replace BB := hide (below_y (uh BB) hb); clear hb; go_wp2_with fail
        refine hK.out _ _ (⟨(uh K2).cell 0 rfl, (uh K2).cell 1 rfl, (uh A).cell 0 rfl, (uh A).cell 1 rfl, (uh A).cell 2 rfl, (uh A).cell 3 rfl, (uh A).cell 4 rfl, (uh A).cell 5 rfl, (uh A).cell 6 rfl, (uh A).cell 7 rfl⟩) (fun hHeld2 => ?_)
        clear hK K hHeld; have hHeld := hHeld2; clear hHeld2
        try simp only [Act.put, p1, p2, p3]
        refine wpAnyH_ready (rs := [3, 15]) (by kernel_rfl) (by simp) ?_
        refine (AllReadyH.cons rfl (fun K hK => ?_) (AllReadyH.cons rfl (fun K hK => ?_) AllReadyH.nil))
        ·as_aux_lemma =>
          go_simp
          obtain ⟨ws6, hX⟩ : ∃ X, X = (ws5.alloc (.cells ([.int .u8 e.kind] : List Value).toArray 5)) := ⟨_, rfl⟩
          rw [← hX]
          have K1x : HasObj ws6 ws5.heap.size 5 [.int .u8 e.kind] := by rw [hX]; exact HasObj.new _ _ _
          have hbn : Below ws5.heap.size ws5 ws6 := by rw [hX]; exact (Below.refl ws5.heap.size ws5).alloc (Nat.le_refl _) _
          clear hX; replace A := hide ((uh A).ups hbn); replace K2 := hide ((uh K2).ups hbn); replace RS := hide ((uh RS).up hbn); have sz7 := hide (hbn.size); replace BB := hide (below_y (uh BB) hbn); clear hbn; have K1 := hide K1x; clear K1x
          refine hK.out _ _ (⟨(uh K2).cell 0 rfl, (uh K2).cell 1 rfl, (uh A).cell 0 rfl, (uh A).cell 1 rfl, (uh A).cell 2 rfl, (uh A).cell 3 rfl, (uh A).cell 4 rfl, (uh A).cell 5 rfl, (uh A).cell 6 rfl, (uh A).cell 7 rfl⟩) (fun hHeld2 => ?_)
          clear hK K hHeld; have hHeld := hHeld2; clear hHeld2
          try simp only [Act.put, p1, p2, p3]
          refine heldMore (fun w' => w'.cell? ⟨ws5.heap.size, 0, none⟩ = some (.int .u8 e.kind)) ((uh K1).cell 0 rfl) hHeld (fun hHeld2 => ?_)
          clear hHeld; have hHeld := hHeld2; clear hHeld2; have K1v := CV1 (ws5.heap.size)
          refine tv 4 11 ?_
          clear K1v
          refine tv 8 15 ?_; refine tv 12 19 ?_
          refine wpAnyH_ready (rs := [15]) (by kernel_rfl) (by simp) ?_
          refine (AllReadyH.cons rfl (fun K hK => ?_) AllReadyH.nil)
          go_simp
          refine (setS e.set _ _ _ (uh SM).set (uh RS)).mono ?_
          rintro x ws7 ⟨rfl, hb⟩
          replace A := hide ((uh A).ups hb); replace K2 := hide ((uh K2).ups hb); replace K1 := hide ((uh K1).ups hb); replace RS := hide ((uh RS).up hb); have sz8 := hide (hb.size); replace BB := hide (below_y (uh BB) hb); clear hb; go_wp2_with fail
          refine hK.out _ _ (⟨(uh K1).cell 0 rfl, (uh K2).cell 0 rfl, (uh K2).cell 1 rfl, (uh A).cell 0 rfl, (uh A).cell 1 rfl, (uh A).cell 2 rfl, (uh A).cell 3 rfl, (uh A).cell 4 rfl, (uh A).cell 5 rfl, (uh A).cell 6 rfl, (uh A).cell 7 rfl⟩) (fun hHeld2 => ?_)
          clear hK K hHeld; have hHeld := hHeld2; clear hHeld2
          try simp only [Act.put, p1, p2, p3]
          refine wpAnyH_ready (rs := [16]) (by kernel_rfl) (by simp) ?_
          refine (AllReadyH.cons rfl (fun K hK => ?_) AllReadyH.nil)
          go_simp
          refine (shortS (stB e.set) _ (by have := st_size e.set; omega)).mono ?_
          rintro x ws8 ⟨rfl, hb⟩
          replace A := hide ((uh A).ups hb); replace K2 := hide ((uh K2).ups hb); replace K1 := hide ((uh K1).ups hb); replace RS := hide ((uh RS).up hb); have sz9 := hide (hb.size); replace BB := hide (below_y (uh BB) hb); clear hb; go_wp2_with fail
          refine hK.out _ _ (⟨(uh K1).cell 0 rfl, (uh K2).cell 0 rfl, (uh K2).cell 1 rfl, (uh A).cell 0 rfl, (uh A).cell 1 rfl, (uh A).cell 2 rfl, (uh A).cell 3 rfl, (uh A).cell 4 rfl, (uh A).cell 5 rfl, (uh A).cell 6 rfl, (uh A).cell 7 rfl⟩) (fun hHeld2 => ?_)
          clear hK K hHeld; have hHeld := hHeld2; clear hHeld2
          try simp only [Act.put, p1, p2, p3]
          refine tv 17 24 ?_; refine tv 26 33 ?_
          refine wpAnyH_ready (rs := [30]) (by kernel_rfl) (by simp) ?_
          refine (AllReadyH.cons rfl (fun K hK => ?_) AllReadyH.nil)
          go_simp
          refine (varS (e.since + 1) _ (by have := (uh EF).since; omega) (by have := (uh EF).since; omega)).mono ?_
          rintro x ws9 ⟨rfl, hb⟩
          replace A := hide ((uh A).ups hb); replace K2 := hide ((uh K2).ups hb); replace K1 := hide ((uh K1).ups hb); replace RS := hide ((uh RS).up hb); have sz10 := hide (hb.size); replace BB := hide (below_y (uh BB) hb); clear hb; go_wp2_with fail
          refine hK.out _ _ (⟨(uh K1).cell 0 rfl, (uh K2).cell 0 rfl, (uh K2).cell 1 rfl, (uh A).cell 0 rfl, (uh A).cell 1 rfl, (uh A).cell 2 rfl, (uh A).cell 3 rfl, (uh A).cell 4 rfl, (uh A).cell 5 rfl, (uh A).cell 6 rfl, (uh A).cell 7 rfl⟩) (fun hHeld2 => ?_)
          clear hK K hHeld; have hHeld := hHeld2; clear hHeld2
          try simp only [Act.put, p1, p2, p3]
          refine tv 31 38 ?_
          refine wpAnyH_ready (rs := [34]) (by kernel_rfl) (by simp) ?_
          refine (AllReadyH.cons rfl (fun K hK => ?_) AllReadyH.nil)
          go_simp
          refine (shortS e.text _ (by have := (uh EF).text; omega)).mono ?_
          rintro x ws10 ⟨rfl, hb⟩
          replace A := hide ((uh A).ups hb); replace K2 := hide ((uh K2).ups hb); replace K1 := hide ((uh K1).ups hb); replace RS := hide ((uh RS).up hb); have sz11 := hide (hb.size); replace BB := hide (below_y (uh BB) hb); clear hb; go_wp2_with fail
          refine hK.out _ _ (⟨(uh K1).cell 0 rfl, (uh K2).cell 0 rfl, (uh K2).cell 1 rfl, (uh A).cell 0 rfl, (uh A).cell 1 rfl, (uh A).cell 2 rfl, (uh A).cell 3 rfl, (uh A).cell 4 rfl, (uh A).cell 5 rfl, (uh A).cell 6 rfl, (uh A).cell 7 rfl⟩) (fun hHeld2 => ?_)
          clear hK K hHeld; have hHeld := hHeld2; clear hHeld2
          try simp only [Act.put, p1, p2, p3]
          refine tv 35 42 ?_; refine tv 36 2 ?_; refine tv 37 3 ?_
          refine wpAnyH_done (by kernel_rfl) ?_ _
          go_wp2
          go_ret2
          rw [uh ANS]
          exact ⟨rfl, uh BB⟩
        ·as_aux_lemma =>
          go_simp
          refine (setS e.set _ _ _ (uh SM).set (uh RS)).mono ?_
          rintro x ws6 ⟨rfl, hb⟩
          replace A := hide ((uh A).ups hb); replace K2 := hide ((uh K2).ups hb); replace RS := hide ((uh RS).up hb); have sz7 := hide (hb.size); replace BB := hide (below_y (uh BB) hb); clear hb; go_wp2_with fail
          refine hK.out _ _ (⟨(uh K2).cell 0 rfl, (uh K2).cell 1 rfl, (uh A).cell 0 rfl, (uh A).cell 1 rfl, (uh A).cell 2 rfl, (uh A).cell 3 rfl, (uh A).cell 4 rfl, (uh A).cell 5 rfl, (uh A).cell 6 rfl, (uh A).cell 7 rfl⟩) (fun hHeld2 => ?_)
          clear hK K hHeld; have hHeld := hHeld2; clear hHeld2
          try simp only [Act.put, p1, p2, p3]
          refine wpAnyH_ready (rs := [3, 16]) (by kernel_rfl) (by simp) ?_
          refine (AllReadyH.cons rfl (fun K hK => ?_) (AllReadyH.cons rfl (fun K hK => ?_) AllReadyH.nil))
          ·as_aux_lemma =>
            go_simp
            obtain ⟨ws7, hX⟩ : ∃ X, X = (ws6.alloc (.cells ([.int .u8 e.kind] : List Value).toArray 5)) := ⟨_, rfl⟩
            rw [← hX]
            have K1x : HasObj ws7 ws6.heap.size 5 [.int .u8 e.kind] := by rw [hX]; exact HasObj.new _ _ _
            have hbn : Below ws6.heap.size ws6 ws7 := by rw [hX]; exact (Below.refl ws6.heap.size ws6).alloc (Nat.le_refl _) _
            clear hX; replace A := hide ((uh A).ups hbn); replace K2 := hide ((uh K2).ups hbn); replace RS := hide ((uh RS).up hbn); have sz8 := hide (hbn.size); replace BB := hide (below_y (uh BB) hbn); clear hbn; have K1 := hide K1x; clear K1x
            refine hK.out _ _ (⟨(uh K2).cell 0 rfl, (uh K2).cell 1 rfl, (uh A).cell 0 rfl, (uh A).cell 1 rfl, (uh A).cell 2 rfl, (uh A).cell 3 rfl, (uh A).cell 4 rfl, (uh A).cell 5 rfl, (uh A).cell 6 rfl, (uh A).cell 7 rfl⟩) (fun hHeld2 => ?_)
            clear hK K hHeld; have hHeld := hHeld2; clear hHeld2
            try simp only [Act.put, p1, p2, p3]
            refine heldMore (fun w' => w'.cell? ⟨ws6.heap.size, 0, none⟩ = some (.int .u8 e.kind)) ((uh K1).cell 0 rfl) hHeld (fun hHeld2 => ?_)
            clear hHeld; have hHeld := hHeld2; clear hHeld2; have K1v := CV1 (ws6.heap.size)
            refine tv 4 11 ?_
            clear K1v
            refine tv 8 15 ?_; refine tv 12 19 ?_
            refine wpAnyH_ready (rs := [16]) (by kernel_rfl) (by simp) ?_
            refine (AllReadyH.cons rfl (fun K hK => ?_) AllReadyH.nil)
            go_simp
            refine (shortS (stB e.set) _ (by have := st_size e.set; omega)).mono ?_
            rintro x ws8 ⟨rfl, hb⟩
            replace A := hide ((uh A).ups hb); replace K2 := hide ((uh K2).ups hb); replace K1 := hide ((uh K1).ups hb); replace RS := hide ((uh RS).up hb); have sz9 := hide (hb.size); replace BB := hide (below_y (uh BB) hb); clear hb; go_wp2_with fail
            refine hK.out _ _ (⟨(uh K1).cell 0 rfl, (uh K2).cell 0 rfl, (uh K2).cell 1 rfl, (uh A).cell 0 rfl, (uh A).cell 1 rfl, (uh A).cell 2 rfl, (uh A).cell 3 rfl, (uh A).cell 4 rfl, (uh A).cell 5 rfl, (uh A).cell 6 rfl, (uh A).cell 7 rfl⟩) (fun hHeld2 => ?_)
            clear hK K hHeld; have hHeld := hHeld2; clear hHeld2
            try simp only [Act.put, p1, p2, p3]
            refine tv 17 24 ?_; refine tv 26 33 ?_
            refine wpAnyH_ready (rs := [30]) (by kernel_rfl) (by simp) ?_
            refine (AllReadyH.cons rfl (fun K hK => ?_) AllReadyH.nil)
            go_simp
            refine (varS (e.since + 1) _ (by have := (uh EF).since; omega) (by have := (uh EF).since; omega)).mono ?_
            rintro x ws9 ⟨rfl, hb⟩
            replace A := hide ((uh A).ups hb); replace K2 := hide ((uh K2).ups hb); replace K1 := hide ((uh K1).ups hb); replace RS := hide ((uh RS).up hb); have sz10 := hide (hb.size); replace BB := hide (below_y (uh BB) hb); clear hb; go_wp2_with fail
            refine hK.out _ _ (⟨(uh K1).cell 0 rfl, (uh K2).cell 0 rfl, (uh K2).cell 1 rfl, (uh A).cell 0 rfl, (uh A).cell 1 rfl, (uh A).cell 2 rfl, (uh A).cell 3 rfl, (uh A).cell 4 rfl, (uh A).cell 5 rfl, (uh A).cell 6 rfl, (uh A).cell 7 rfl⟩) (fun hHeld2 => ?_)
            clear hK K hHeld; have hHeld := hHeld2; clear hHeld2
            try simp only [Act.put, p1, p2, p3]
            refine tv 31 38 ?_
            refine wpAnyH_ready (rs := [34]) (by kernel_rfl) (by simp) ?_
            refine (AllReadyH.cons rfl (fun K hK => ?_) AllReadyH.nil)
            go_simp
            refine (shortS e.text _ (by have := (uh EF).text; omega)).mono ?_
            rintro x ws10 ⟨rfl, hb⟩
            replace A := hide ((uh A).ups hb); replace K2 := hide ((uh K2).ups hb); replace K1 := hide ((uh K1).ups hb); replace RS := hide ((uh RS).up hb); have sz11 := hide (hb.size); replace BB := hide (below_y (uh BB) hb); clear hb; go_wp2_with fail
            refine hK.out _ _ (⟨(uh K1).cell 0 rfl, (uh K2).cell 0 rfl, (uh K2).cell 1 rfl, (uh A).cell 0 rfl, (uh A).cell 1 rfl, (uh A).cell 2 rfl, (uh A).cell 3 rfl, (uh A).cell 4 rfl, (uh A).cell 5 rfl, (uh A).cell 6 rfl, (uh A).cell 7 rfl⟩) (fun hHeld2 => ?_)
            clear hK K hHeld; have hHeld := hHeld2; clear hHeld2
            try simp only [Act.put, p1, p2, p3]
            refine tv 35 42 ?_; refine tv 36 2 ?_; refine tv 37 3 ?_
            refine wpAnyH_done (by kernel_rfl) ?_ _
            go_wp2
            go_ret2
            rw [uh ANS]
            exact ⟨rfl, uh BB⟩
          ·as_aux_lemma =>
            go_simp
            refine (shortS (stB e.set) _ (by have := st_size e.set; omega)).mono ?_
            rintro x ws7 ⟨rfl, hb⟩
            replace A := hide ((uh A).ups hb); replace K2 := hide ((uh K2).ups hb); replace RS := hide ((uh RS).up hb); have sz8 := hide (hb.size); replace BB := hide (below_y (uh BB) hb); clear hb; go_wp2_with fail
            refine hK.out _ _ (⟨(uh K2).cell 0 rfl, (uh K2).cell 1 rfl, (uh A).cell 0 rfl, (uh A).cell 1 rfl, (uh A).cell 2 rfl, (uh A).cell 3 rfl, (uh A).cell 4 rfl, (uh A).cell 5 rfl, (uh A).cell 6 rfl, (uh A).cell 7 rfl⟩) (fun hHeld2 => ?_)
            clear hK K hHeld; have hHeld := hHeld2; clear hHeld2
            try simp only [Act.put, p1, p2, p3]
            refine wpAnyH_ready (rs := [3, 30]) (by kernel_rfl) (by simp) ?_
            refine (AllReadyH.cons rfl (fun K hK => ?_) (AllReadyH.cons rfl (fun K hK => ?_) AllReadyH.nil))
            ·as_aux_lemma =>
              go_simp
              obtain ⟨ws8, hX⟩ : ∃ X, X = (ws7.alloc (.cells ([.int .u8 e.kind] : List Value).toArray 5)) := ⟨_, rfl⟩
              rw [← hX]
              have K1x : HasObj ws8 ws7.heap.size 5 [.int .u8 e.kind] := by rw [hX]; exact HasObj.new _ _ _
              have hbn : Below ws7.heap.size ws7 ws8 := by rw [hX]; exact (Below.refl ws7.heap.size ws7).alloc (Nat.le_refl _) _
              clear hX; replace A := hide ((uh A).ups hbn); replace K2 := hide ((uh K2).ups hbn); replace RS := hide ((uh RS).up hbn); have sz9 := hide (hbn.size); replace BB := hide (below_y (uh BB) hbn); clear hbn; have K1 := hide K1x; clear K1x
              refine hK.out _ _ (⟨(uh K2).cell 0 rfl, (uh K2).cell 1 rfl, (uh A).cell 0 rfl, (uh A).cell 1 rfl, (uh A).cell 2 rfl, (uh A).cell 3 rfl, (uh A).cell 4 rfl, (uh A).cell 5 rfl, (uh A).cell 6 rfl, (uh A).cell 7 rfl⟩) (fun hHeld2 => ?_)
              clear hK K hHeld; have hHeld := hHeld2; clear hHeld2
              try simp only [Act.put, p1, p2, p3]
              refine heldMore (fun w' => w'.cell? ⟨ws7.heap.size, 0, none⟩ = some (.int .u8 e.kind)) ((uh K1).cell 0 rfl) hHeld (fun hHeld2 => ?_)
              clear hHeld; have hHeld := hHeld2; clear hHeld2; have K1v := CV1 (ws7.heap.size)
              refine tv 4 11 ?_
              clear K1v
              refine tv 8 15 ?_; refine tv 12 19 ?_; refine tv 17 24 ?_; refine tv 26 33 ?_
              refine wpAnyH_ready (rs := [30]) (by kernel_rfl) (by simp) ?_
              refine (AllReadyH.cons rfl (fun K hK => ?_) AllReadyH.nil)
              go_simp
              refine (varS (e.since + 1) _ (by have := (uh EF).since; omega) (by have := (uh EF).since; omega)).mono ?_
              rintro x ws9 ⟨rfl, hb⟩
              replace A := hide ((uh A).ups hb); replace K2 := hide ((uh K2).ups hb); replace K1 := hide ((uh K1).ups hb); replace RS := hide ((uh RS).up hb); have sz10 := hide (hb.size); replace BB := hide (below_y (uh BB) hb); clear hb; go_wp2_with fail
              refine hK.out _ _ (⟨(uh K1).cell 0 rfl, (uh K2).cell 0 rfl, (uh K2).cell 1 rfl, (uh A).cell 0 rfl, (uh A).cell 1 rfl, (uh A).cell 2 rfl, (uh A).cell 3 rfl, (uh A).cell 4 rfl, (uh A).cell 5 rfl, (uh A).cell 6 rfl, (uh A).cell 7 rfl⟩) (fun hHeld2 => ?_)
              clear hK K hHeld; have hHeld := hHeld2; clear hHeld2
              try simp only [Act.put, p1, p2, p3]
              refine tv 31 38 ?_
              refine wpAnyH_ready (rs := [34]) (by kernel_rfl) (by simp) ?_
              refine (AllReadyH.cons rfl (fun K hK => ?_) AllReadyH.nil)
              go_simp
              refine (shortS e.text _ (by have := (uh EF).text; omega)).mono ?_
              rintro x ws10 ⟨rfl, hb⟩
              replace A := hide ((uh A).ups hb); replace K2 := hide ((uh K2).ups hb); replace K1 := hide ((uh K1).ups hb); replace RS := hide ((uh RS).up hb); have sz11 := hide (hb.size); replace BB := hide (below_y (uh BB) hb); clear hb; go_wp2_with fail
              refine hK.out _ _ (⟨(uh K1).cell 0 rfl, (uh K2).cell 0 rfl, (uh K2).cell 1 rfl, (uh A).cell 0 rfl, (uh A).cell 1 rfl, (uh A).cell 2 rfl, (uh A).cell 3 rfl, (uh A).cell 4 rfl, (uh A).cell 5 rfl, (uh A).cell 6 rfl, (uh A).cell 7 rfl⟩) (fun hHeld2 => ?_)
              clear hK K hHeld; have hHeld := hHeld2; clear hHeld2
              try simp only [Act.put, p1, p2, p3]
              refine tv 35 42 ?_; refine tv 36 2 ?_; refine tv 37 3 ?_
              refine wpAnyH_done (by kernel_rfl) ?_ _
              go_wp2
              go_ret2
              rw [uh ANS]
              exact ⟨rfl, uh BB⟩
            ·as_aux_lemma =>
              go_simp
              refine (varS (e.since + 1) _ (by have := (uh EF).since; omega) (by have := (uh EF).since; omega)).mono ?_
              rintro x ws8 ⟨rfl, hb⟩
              replace A := hide ((uh A).ups hb); replace K2 := hide ((uh K2).ups hb); replace RS := hide ((uh RS).up hb); have sz9 := hide (hb.size); replace BB := hide (below_y (uh BB) hb); clear hb; go_wp2_with fail
              refine hK.out _ _ (⟨(uh K2).cell 0 rfl, (uh K2).cell 1 rfl, (uh A).cell 0 rfl, (uh A).cell 1 rfl, (uh A).cell 2 rfl, (uh A).cell 3 rfl, (uh A).cell 4 rfl, (uh A).cell 5 rfl, (uh A).cell 6 rfl, (uh A).cell 7 rfl⟩) (fun hHeld2 => ?_)
              clear hK K hHeld; have hHeld := hHeld2; clear hHeld2
              try simp only [Act.put, p1, p2, p3]
              refine wpAnyH_ready (rs := [3, 34]) (by kernel_rfl) (by simp) ?_
              refine (AllReadyH.cons rfl (fun K hK => ?_) (AllReadyH.cons rfl (fun K hK => ?_) AllReadyH.nil))
              ·as_aux_lemma =>
                go_simp
                obtain ⟨ws9, hX⟩ : ∃ X, X = (ws8.alloc (.cells ([.int .u8 e.kind] : List Value).toArray 5)) := ⟨_, rfl⟩
                rw [← hX]
                have K1x : HasObj ws9 ws8.heap.size 5 [.int .u8 e.kind] := by rw [hX]; exact HasObj.new _ _ _
                have hbn : Below ws8.heap.size ws8 ws9 := by rw [hX]; exact (Below.refl ws8.heap.size ws8).alloc (Nat.le_refl _) _
                clear hX; replace A := hide ((uh A).ups hbn); replace K2 := hide ((uh K2).ups hbn); replace RS := hide ((uh RS).up hbn); have sz10 := hide (hbn.size); replace BB := hide (below_y (uh BB) hbn); clear hbn; have K1 := hide K1x; clear K1x
                refine hK.out _ _ (⟨(uh K2).cell 0 rfl, (uh K2).cell 1 rfl, (uh A).cell 0 rfl, (uh A).cell 1 rfl, (uh A).cell 2 rfl, (uh A).cell 3 rfl, (uh A).cell 4 rfl, (uh A).cell 5 rfl, (uh A).cell 6 rfl, (uh A).cell 7 rfl⟩) (fun hHeld2 => ?_)
                clear hK K hHeld; have hHeld := hHeld2; clear hHeld2
                try simp only [Act.put, p1, p2, p3]
                refine heldMore (fun w' => w'.cell? ⟨ws8.heap.size, 0, none⟩ = some (.int .u8 e.kind)) ((uh K1).cell 0 rfl) hHeld (fun hHeld2 => ?_)
                clear hHeld; have hHeld := hHeld2; clear hHeld2; have K1v := CV1 (ws8.heap.size)
                refine tv 4 11 ?_
                clear K1v
                refine tv 8 15 ?_; refine tv 12 19 ?_; refine tv 17 24 ?_; refine tv 26 33 ?_; refine tv 31 38 ?_
                refine wpAnyH_ready (rs := [34]) (by kernel_rfl) (by simp) ?_
                refine (AllReadyH.cons rfl (fun K hK => ?_) AllReadyH.nil)
                go_simp
                refine (shortS e.text _ (by have := (uh EF).text; omega)).mono ?_
                rintro x ws10 ⟨rfl, hb⟩
                replace A := hide ((uh A).ups hb); replace K2 := hide ((uh K2).ups hb); replace K1 := hide ((uh K1).ups hb); replace RS := hide ((uh RS).up hb); have sz11 := hide (hb.size); replace BB := hide (below_y (uh BB) hb); clear hb; go_wp2_with fail
                refine hK.out _ _ (⟨(uh K1).cell 0 rfl, (uh K2).cell 0 rfl, (uh K2).cell 1 rfl, (uh A).cell 0 rfl, (uh A).cell 1 rfl, (uh A).cell 2 rfl, (uh A).cell 3 rfl, (uh A).cell 4 rfl, (uh A).cell 5 rfl, (uh A).cell 6 rfl, (uh A).cell 7 rfl⟩) (fun hHeld2 => ?_)
                clear hK K hHeld; have hHeld := hHeld2; clear hHeld2
                try simp only [Act.put, p1, p2, p3]
                refine tv 35 42 ?_; refine tv 36 2 ?_; refine tv 37 3 ?_
                refine wpAnyH_done (by kernel_rfl) ?_ _
                go_wp2
                go_ret2
                rw [uh ANS]
                exact ⟨rfl, uh BB⟩
              ·as_aux_lemma =>
                go_simp
                refine (shortS e.text _ (by have := (uh EF).text; omega)).mono ?_
                rintro x ws9 ⟨rfl, hb⟩
                replace A := hide ((uh A).ups hb); replace K2 := hide ((uh K2).ups hb); replace RS := hide ((uh RS).up hb); have sz10 := hide (hb.size); replace BB := hide (below_y (uh BB) hb); clear hb; go_wp2_with fail
                refine hK.out _ _ (⟨(uh K2).cell 0 rfl, (uh K2).cell 1 rfl, (uh A).cell 0 rfl, (uh A).cell 1 rfl, (uh A).cell 2 rfl, (uh A).cell 3 rfl, (uh A).cell 4 rfl, (uh A).cell 5 rfl, (uh A).cell 6 rfl, (uh A).cell 7 rfl⟩) (fun hHeld2 => ?_)
                clear hK K hHeld; have hHeld := hHeld2; clear hHeld2
                try simp only [Act.put, p1, p2, p3]
                refine wpAnyH_ready (rs := [3]) (by kernel_rfl) (by simp) ?_
                refine (AllReadyH.cons rfl (fun K hK => ?_) AllReadyH.nil)
                go_simp
                obtain ⟨ws10, hX⟩ : ∃ X, X = (ws9.alloc (.cells ([.int .u8 e.kind] : List Value).toArray 5)) := ⟨_, rfl⟩
                rw [← hX]
                have K1x : HasObj ws10 ws9.heap.size 5 [.int .u8 e.kind] := by rw [hX]; exact HasObj.new _ _ _
                have hbn : Below ws9.heap.size ws9 ws10 := by rw [hX]; exact (Below.refl ws9.heap.size ws9).alloc (Nat.le_refl _) _
                clear hX; replace A := hide ((uh A).ups hbn); replace K2 := hide ((uh K2).ups hbn); replace RS := hide ((uh RS).up hbn); have sz11 := hide (hbn.size); replace BB := hide (below_y (uh BB) hbn); clear hbn; have K1 := hide K1x; clear K1x
                refine hK.out _ _ (⟨(uh K2).cell 0 rfl, (uh K2).cell 1 rfl, (uh A).cell 0 rfl, (uh A).cell 1 rfl, (uh A).cell 2 rfl, (uh A).cell 3 rfl, (uh A).cell 4 rfl, (uh A).cell 5 rfl, (uh A).cell 6 rfl, (uh A).cell 7 rfl⟩) (fun hHeld2 => ?_)
                clear hK K hHeld; have hHeld := hHeld2; clear hHeld2
                try simp only [Act.put, p1, p2, p3]
                refine heldMore (fun w' => w'.cell? ⟨ws9.heap.size, 0, none⟩ = some (.int .u8 e.kind)) ((uh K1).cell 0 rfl) hHeld (fun hHeld2 => ?_)
                clear hHeld; have hHeld := hHeld2; clear hHeld2; have K1v := CV1 (ws9.heap.size)
                refine tv 4 11 ?_
                clear K1v
                refine tv 8 15 ?_; refine tv 12 19 ?_; refine tv 17 24 ?_; refine tv 26 33 ?_; refine tv 31 38 ?_; refine tv 35 42 ?_; refine tv 36 2 ?_; refine tv 37 3 ?_
                refine wpAnyH_done (by kernel_rfl) ?_ _
                go_wp2
                go_ret2
                rw [uh ANS]
                exact ⟨rfl, uh BB⟩
  ·as_aux_lemma =>
    go_simp
    obtain ⟨ws3, hX⟩ : ∃ X, X = (ws2.alloc (.cells ([.int .u8 e.how, .int .u8 e.bits] : List Value).toArray 5)).drew := ⟨_, rfl⟩
    rw [← hX]
    have K2x : HasObj ws3 ws2.heap.size 5 [.int .u8 e.how, .int .u8 e.bits] := by rw [hX]; exact (HasObj.new _ _ _).drew
    have hbn : Below ws2.drew.heap.size ws2.drew ws3 := by rw [hX]; exact (Below.refl ws2.drew.heap.size ws2.drew).alloc (Nat.le_refl _) _
    clear hX; replace A := hide ((uh A).ups hbn); replace RS := hide ((uh RS).up hbn); have sz4 := hide (hbn.size); replace BB := hide (below_y (uh BB) hbn); clear hbn; have K2 := hide K2x; clear K2x
    refine hK.out _ _ (⟨(uh A).cell 0 rfl, (uh A).cell 1 rfl, (uh A).cell 2 rfl, (uh A).cell 3 rfl, (uh A).cell 4 rfl, (uh A).cell 5 rfl, (uh A).cell 6 rfl, (uh A).cell 7 rfl⟩) (fun hHeld2 => ?_)
    clear hK K hHeld; have hHeld := hHeld2; clear hHeld2
    try simp only [Act.put, p1, p2, p3]
    refine heldMore (fun w' => w'.cell? ⟨ws2.heap.size, 1, none⟩ = some (.int .u8 e.bits)) ((uh K2).cell 1 rfl) hHeld (fun hHeld2 => ?_)
    clear hHeld; have hHeld := hHeld2; clear hHeld2
    refine heldMore (fun w' => w'.cell? ⟨ws2.heap.size, 0, none⟩ = some (.int .u8 e.how)) ((uh K2).cell 0 rfl) hHeld (fun hHeld2 => ?_)
    clear hHeld; have hHeld := hHeld2; clear hHeld2; have K2v := CV2 (ws2.heap.size)
    refine tv 25 32 ?_
    clear K2v
    refine wpAnyH_ready (rs := [3, 7]) (by kernel_rfl) (by simp) ?_
    refine (AllReadyH.cons rfl (fun K hK => ?_) (AllReadyH.cons rfl (fun K hK => ?_) AllReadyH.nil))
    ·as_aux_lemma =>
      go_simp
      obtain ⟨ws4, hX⟩ : ∃ X, X = (ws3.alloc (.cells ([.int .u8 e.kind] : List Value).toArray 5)) := ⟨_, rfl⟩
      rw [← hX]
      have K1x : HasObj ws4 ws3.heap.size 5 [.int .u8 e.kind] := by rw [hX]; exact HasObj.new _ _ _
      have hbn : Below ws3.heap.size ws3 ws4 := by rw [hX]; exact (Below.refl ws3.heap.size ws3).alloc (Nat.le_refl _) _
      clear hX; replace A := hide ((uh A).ups hbn); replace K2 := hide ((uh K2).ups hbn); replace RS := hide ((uh RS).up hbn); have sz5 := hide (hbn.size); replace BB := hide (below_y (uh BB) hbn); clear hbn; have K1 := hide K1x; clear K1x
      refine hK.out _ _ (⟨(uh K2).cell 0 rfl, (uh K2).cell 1 rfl, (uh A).cell 0 rfl, (uh A).cell 1 rfl, (uh A).cell 2 rfl, (uh A).cell 3 rfl, (uh A).cell 4 rfl, (uh A).cell 5 rfl, (uh A).cell 6 rfl, (uh A).cell 7 rfl⟩) (fun hHeld2 => ?_)
      clear hK K hHeld; have hHeld := hHeld2; clear hHeld2
      try simp only [Act.put, p1, p2, p3]
      refine heldMore (fun w' => w'.cell? ⟨ws3.heap.size, 0, none⟩ = some (.int .u8 e.kind)) ((uh K1).cell 0 rfl) hHeld (fun hHeld2 => ?_)
      clear hHeld; have hHeld := hHeld2; clear hHeld2; have K1v := CV1 (ws3.heap.size)
      refine tv 4 11 ?_
      clear K1v
      refine wpAnyH_ready (rs := [7]) (by kernel_rfl) (by simp) ?_
      refine (AllReadyH.cons rfl (fun K hK => ?_) AllReadyH.nil)
      go_simp
      refine (shortS e.box _ (by have := (uh EF).box; omega)).mono ?_
      rintro x ws5 ⟨rfl, hb⟩
      replace A := hide ((uh A).ups hb); replace K2 := hide ((uh K2).ups hb); replace K1 := hide ((uh K1).ups hb); replace RS := hide ((uh RS).up hb); have sz6 := hide (hb.size); replace BB := hide (below_y (uh BB) hb); clear hb; go_wp2_with fail
      refine hK.out _ _ (⟨(uh K1).cell 0 rfl, (uh K2).cell 0 rfl, (uh K2).cell 1 rfl, (uh A).cell 0 rfl, (uh A).cell 1 rfl, (uh A).cell 2 rfl, (uh A).cell 3 rfl, (uh A).cell 4 rfl, (uh A).cell 5 rfl, (uh A).cell 6 rfl, (uh A).cell 7 rfl⟩) (fun hHeld2 => ?_)
      clear hK K hHeld; have hHeld := hHeld2; clear hHeld2
      try simp only [Act.put, p1, p2, p3]
      refine tv 8 15 ?_
      refine wpAnyH_ready (rs := [11]) (by kernel_rfl) (by simp) ?_
      refine (AllReadyH.cons rfl (fun K hK => ?_) AllReadyH.nil)
      go_simp
      refine (shortS e.dst _ (by have := (uh EF).dst; omega)).mono ?_
      rintro x ws6 ⟨rfl, hb⟩
      replace A := hide ((uh A).ups hb); replace K2 := hide ((uh K2).ups hb); replace K1 := hide ((uh K1).ups hb); replace RS := hide ((uh RS).up hb); have sz7 := hide (hb.size); replace BB := hide (below_y (uh BB) hb); clear hb; go_wp2_with fail
      refine hK.out _ _ (⟨(uh K1).cell 0 rfl, (uh K2).cell 0 rfl, (uh K2).cell 1 rfl, (uh A).cell 0 rfl, (uh A).cell 1 rfl, (uh A).cell 2 rfl, (uh A).cell 3 rfl, (uh A).cell 4 rfl, (uh A).cell 5 rfl, (uh A).cell 6 rfl, (uh A).cell 7 rfl⟩) (fun hHeld2 => ?_)
      clear hK K hHeld; have hHeld := hHeld2; clear hHeld2
      try simp only [Act.put, p1, p2, p3]
      refine tv 12 19 ?_
      refine wpAnyH_ready (rs := [15]) (by kernel_rfl) (by simp) ?_
      refine (AllReadyH.cons rfl (fun K hK => ?_) AllReadyH.nil)
      go_simp
      refine (setS e.set _ _ _ (uh SM).set (uh RS)).mono ?_
      rintro x ws7 ⟨rfl, hb⟩
      replace A := hide ((uh A).ups hb); replace K2 := hide ((uh K2).ups hb); replace K1 := hide ((uh K1).ups hb); replace RS := hide ((uh RS).up hb); have sz8 := hide (hb.size); replace BB := hide (below_y (uh BB) hb); clear hb; go_wp2_with fail
      refine hK.out _ _ (⟨(uh K1).cell 0 rfl, (uh K2).cell 0 rfl, (uh K2).cell 1 rfl, (uh A).cell 0 rfl, (uh A).cell 1 rfl, (uh A).cell 2 rfl, (uh A).cell 3 rfl, (uh A).cell 4 rfl, (uh A).cell 5 rfl, (uh A).cell 6 rfl, (uh A).cell 7 rfl⟩) (fun hHeld2 => ?_)
      clear hK K hHeld; have hHeld := hHeld2; clear hHeld2
      try simp only [Act.put, p1, p2, p3]
      refine wpAnyH_ready (rs := [16]) (by kernel_rfl) (by simp) ?_
      refine (AllReadyH.cons rfl (fun K hK => ?_) AllReadyH.nil)
      go_simp
      refine (shortS (stB e.set) _ (by have := st_size e.set; omega)).mono ?_
      rintro x ws8 ⟨rfl, hb⟩
      replace A := hide ((uh A).ups hb); replace K2 := hide ((uh K2).ups hb); replace K1 := hide ((uh K1).ups hb); replace RS := hide ((uh RS).up hb); have sz9 := hide (hb.size); replace BB := hide (below_y (uh BB) hb); clear hb; go_wp2_with fail
      refine hK.out _ _ (⟨(uh K1).cell 0 rfl, (uh K2).cell 0 rfl, (uh K2).cell 1 rfl, (uh A).cell 0 rfl, (uh A).cell 1 rfl, (uh A).cell 2 rfl, (uh A).cell 3 rfl, (uh A).cell 4 rfl, (uh A).cell 5 rfl, (uh A).cell 6 rfl, (uh A).cell 7 rfl⟩) (fun hHeld2 => ?_)
      clear hK K hHeld; have hHeld := hHeld2; clear hHeld2
      try simp only [Act.put, p1, p2, p3]
      refine tv 17 24 ?_; refine tv 26 33 ?_
      refine wpAnyH_ready (rs := [30]) (by kernel_rfl) (by simp) ?_
      refine (AllReadyH.cons rfl (fun K hK => ?_) AllReadyH.nil)
      go_simp
      refine (varS (e.since + 1) _ (by have := (uh EF).since; omega) (by have := (uh EF).since; omega)).mono ?_
      rintro x ws9 ⟨rfl, hb⟩
      replace A := hide ((uh A).ups hb); replace K2 := hide ((uh K2).ups hb); replace K1 := hide ((uh K1).ups hb); replace RS := hide ((uh RS).up hb); have sz10 := hide (hb.size); replace BB := hide (below_y (uh BB) hb); clear hb; go_wp2_with fail
      refine hK.out _ _ (⟨(uh K1).cell 0 rfl, (uh K2).cell 0 rfl, (uh K2).cell 1 rfl, (uh A).cell 0 rfl, (uh A).cell 1 rfl, (uh A).cell 2 rfl, (uh A).cell 3 rfl, (uh A).cell 4 rfl, (uh A).cell 5 rfl, (uh A).cell 6 rfl, (uh A).cell 7 rfl⟩) (fun hHeld2 => ?_)
      clear hK K hHeld; have hHeld := hHeld2; clear hHeld2
      try simp only [Act.put, p1, p2, p3]
      refine tv 31 38 ?_
      refine wpAnyH_ready (rs := [34]) (by kernel_rfl) (by simp) ?_
      refine (AllReadyH.cons rfl (fun K hK => ?_) AllReadyH.nil)
      go_simp
      refine (shortS e.text _ (by have := (uh EF).text; omega)).mono ?_
      rintro x ws10 ⟨rfl, hb⟩
      replace A := hide ((uh A).ups hb); replace K2 := hide ((uh K2).ups hb); replace K1 := hide ((uh K1).ups hb); replace RS := hide ((uh RS).up hb); have sz11 := hide (hb.size); replace BB := hide (below_y (uh BB) hb); clear hb; go_wp2_with fail
      refine hK.out _ _ (⟨(uh K1).cell 0 rfl, (uh K2).cell 0 rfl, (uh K2).cell 1 rfl, (uh A).cell 0 rfl, (uh A).cell 1 rfl, (uh A).cell 2 rfl, (uh A).cell 3 rfl, (uh A).cell 4 rfl, (uh A).cell 5 rfl, (uh A).cell 6 rfl, (uh A).cell 7 rfl⟩) (fun hHeld2 => ?_)
      clear hK K hHeld; have hHeld := hHeld2; clear hHeld2
      try simp only [Act.put, p1, p2, p3]
      refine tv 35 42 ?_; refine tv 36 2 ?_; refine tv 37 3 ?_
      refine wpAnyH_done (by kernel_rfl) ?_ _
      go_wp2
      go_ret2
      rw [uh ANS]
      exact ⟨rfl, uh BB⟩
    ·as_aux_lemma =>
      go_simp
      refine (shortS e.box _ (by have := (uh EF).box; omega)).mono ?_
      rintro x ws4 ⟨rfl, hb⟩
      replace A := hide ((uh A).ups hb); replace K2 := hide ((uh K2).ups hb); replace RS := hide ((uh RS).up hb); have sz5 := hide (hb.size); replace BB := hide (below_y (uh BB) hb); clear hb; go_wp2_with fail
      refine hK.out _ _ (⟨(uh K2).cell 0 rfl, (uh K2).cell 1 rfl, (uh A).cell 0 rfl, (uh A).cell 1 rfl, (uh A).cell 2 rfl, (uh A).cell 3 rfl, (uh A).cell 4 rfl, (uh A).cell 5 rfl, (uh A).cell 6 rfl, (uh A).cell 7 rfl⟩) (fun hHeld2 => ?_)
      clear hK K hHeld; have hHeld := hHeld2; clear hHeld2
      try simp only [Act.put, p1, p2, p3]
      refine wpAnyH_ready (rs := [3, 11]) (by kernel_rfl) (by simp) ?_
      refine (AllReadyH.cons rfl (fun K hK => ?_) (AllReadyH.cons rfl (fun K hK => ?_) AllReadyH.nil))
      ·as_aux_lemma =>
        go_simp
        obtain ⟨ws5, hX⟩ : ∃ X, X = (ws4.alloc (.cells ([.int .u8 e.kind] : List Value).toArray 5)) := ⟨_, rfl⟩
        rw [← hX]
        have K1x : HasObj ws5 ws4.heap.size 5 [.int .u8 e.kind] := by rw [hX]; exact HasObj.new _ _ _
        have hbn : Below ws4.heap.size ws4 ws5 := by rw [hX]; exact (Below.refl ws4.heap.size ws4).alloc (Nat.le_refl _) _
        clear hX; replace A := hide ((uh A).ups hbn); replace K2 := hide ((uh K2).ups hbn); replace RS := hide ((uh RS).up hbn); have sz6 := hide (hbn.size); replace BB := hide (below_y (uh BB) hbn); clear hbn; have K1 := hide K1x; clear K1x
        refine hK.out _ _ (⟨(uh K2).cell 0 rfl, (uh K2).cell 1 rfl, (uh A).cell 0 rfl, (uh A).cell 1 rfl, (uh A).cell 2 rfl, (uh A).cell 3 rfl, (uh A).cell 4 rfl, (uh A).cell 5 rfl, (uh A).cell 6 rfl, (uh A).cell 7 rfl⟩) (fun hHeld2 => ?_)
        clear hK K hHeld; have hHeld := hHeld2; clear hHeld2
        try simp only [Act.put, p1, p2, p3]
        refine heldMore (fun w' => w'.cell? ⟨ws4.heap.size, 0, none⟩ = some (.int .u8 e.kind)) ((uh K1).cell 0 rfl) hHeld (fun hHeld2 => ?_)
        clear hHeld; have hHeld := hHeld2; clear hHeld2; have K1v := CV1 (ws4.heap.size)
        refine tv 4 11 ?_
        clear K1v
        refine tv 8 15 ?_
        refine wpAnyH_ready (rs := [11]) (by kernel_rfl) (by simp) ?_
        refine (AllReadyH.cons rfl (fun K hK => ?_) AllReadyH.nil)
        go_simp
        refine (shortS e.dst _ (by have := (uh EF).dst; omega)).mono ?_
        rintro x ws6 ⟨rfl, hb⟩
        replace A := hide ((uh A).ups hb); replace K2 := hide ((uh K2).ups hb); replace K1 := hide ((uh K1).ups hb); replace RS := hide ((uh RS).up hb); have sz7 := hide (hb.size); replace BB := hide (below_y (uh BB) hb); clear hb; go_wp2_with fail
        refine hK.out _ _ (⟨(uh K1).cell 0 rfl, (uh K2).cell 0 rfl, (uh K2).cell 1 rfl, (uh A).cell 0 rfl, (uh A).cell 1 rfl, (uh A).cell 2 rfl, (uh A).cell 3 rfl, (uh A).cell 4 rfl, (uh A).cell 5 rfl, (uh A).cell 6 rfl, (uh A).cell 7 rfl⟩) (fun hHeld2 => ?_)
        clear hK K hHeld; have hHeld := hHeld2; clear hHeld2
        try simp only [Act.put, p1, p2, p3]
        refine tv 12 19 ?_
        refine wpAnyH_ready (rs := [15]) (by kernel_rfl) (by simp) ?_
        refine (AllReadyH.cons rfl (fun K hK => ?_) AllReadyH.nil)
        go_simp
        refine (setS e.set _ _ _ (uh SM).set (uh RS)).mono ?_
        rintro x ws7 ⟨rfl, hb⟩
        replace A := hide ((uh A).ups hb); replace K2 := hide ((uh K2).ups hb); replace K1 := hide ((uh K1).ups hb); replace RS := hide ((uh RS).up hb); have sz8 := hide (hb.size); replace BB := hide (below_y (uh BB) hb); clear hb; go_wp2_with fail
        refine hK.out _ _ (⟨(uh K1).cell 0 rfl, (uh K2).cell 0 rfl, (uh K2).cell 1 rfl, (uh A).cell 0 rfl, (uh A).cell 1 rfl, (uh A).cell 2 rfl, (uh A).cell 3 rfl, (uh A).cell 4 rfl, (uh A).cell 5 rfl, (uh A).cell 6 rfl, (uh A).cell 7 rfl⟩) (fun hHeld2 => ?_)
        clear hK K hHeld; have hHeld := hHeld2; clear hHeld2
        try simp only [Act.put, p1, p2, p3]
        refine wpAnyH_ready (rs := [16]) (by kernel_rfl) (by simp) ?_
        refine (AllReadyH.cons rfl (fun K hK => ?_) AllReadyH.nil)
        go_simp
        refine (shortS (stB e.set) _ (by have := st_size e.set; omega)).mono ?_
        rintro x ws8 ⟨rfl, hb⟩
        replace A := hide ((uh A).ups hb); replace K2 := hide ((uh K2).ups hb); replace K1 := hide ((uh K1).ups hb); replace RS := hide ((uh RS).up hb); have sz9 := hide (hb.size); replace BB := hide (below_y (uh BB) hb); clear hb; go_wp2_with fail
        refine hK.out _ _ (⟨(uh K1).cell 0 rfl, (uh K2).cell 0 rfl, (uh K2).cell 1 rfl, (uh A).cell 0 rfl, (uh A).cell 1 rfl, (uh A).cell 2 rfl, (uh A).cell 3 rfl, (uh A).cell 4 rfl, (uh A).cell 5 rfl, (uh A).cell 6 rfl, (uh A).cell 7 rfl⟩) (fun hHeld2 => ?_)
        clear hK K hHeld; have hHeld := hHeld2; clear hHeld2
        try simp only [Act.put, p1, p2, p3]
        refine tv 17 24 ?_; refine tv 26 33 ?_
        refine wpAnyH_ready (rs := [30]) (by kernel_rfl) (by simp) ?_
        refine (AllReadyH.cons rfl (fun K hK => ?_) AllReadyH.nil)
        go_simp
        refine (varS (e.since + 1) _ (by have := (uh EF).since; omega) (by have := (uh EF).since; omega)).mono ?_
        rintro x ws9 ⟨rfl, hb⟩
        replace A := hide ((uh A).ups hb); replace K2 := hide ((uh K2).ups hb); replace K1 := hide ((uh K1).ups hb); replace RS := hide ((uh RS).up hb); have sz10 := hide (hb.size); replace BB := hide (below_y (uh BB) hb); clear hb; go_wp2_with fail
        refine hK.out _ _ (⟨(uh K1).cell 0 rfl, (uh K2).cell 0 rfl, (uh K2).cell 1 rfl, (uh A).cell 0 rfl, (uh A).cell 1 rfl, (uh A).cell 2 rfl, (uh A).cell 3 rfl, (uh A).cell 4 rfl, (uh A).cell 5 rfl, (uh A).cell 6 rfl, (uh A).cell 7 rfl⟩) (fun hHeld2 => ?_)
        clear hK K hHeld; have hHeld := hHeld2; clear hHeld2
        try simp only [Act.put, p1, p2, p3]
        refine tv 31 38 ?_
        refine wpAnyH_ready (rs := [34]) (by kernel_rfl) (by simp) ?_
        refine (AllReadyH.cons rfl (fun K hK => ?_) AllReadyH.nil)
        go_simp
        refine (shortS e.text _ (by have := (uh EF).text; omega)).mono ?_
        rintro x ws10 ⟨rfl, hb⟩
        replace A := hide ((uh A).ups hb); replace K2 := hide ((uh K2).ups hb); replace K1 := hide ((uh K1).ups hb); replace RS := hide ((uh RS).up hb); have sz11 := hide (hb.size); replace BB := hide (below_y (uh BB) hb); clear hb; go_wp2_with fail
        refine hK.out _ _ (⟨(uh K1).cell 0 rfl, (uh K2).cell 0 rfl, (uh K2).cell 1 rfl, (uh A).cell 0 rfl, (uh A).cell 1 rfl, (uh A).cell 2 rfl, (uh A).cell 3 rfl, (uh A).cell 4 rfl, (uh A).cell 5 rfl, (uh A).cell 6 rfl, (uh A).cell 7 rfl⟩) (fun hHeld2 => ?_)
        clear hK K hHeld; have hHeld := hHeld2; clear hHeld2
        try simp only [Act.put, p1, p2, p3]
        refine tv 35 42 ?_; refine tv 36 2 ?_; refine tv 37 3 ?_
        refine wpAnyH_done (by kernel_rfl) ?_ _
        go_wp2
        go_ret2
        rw [uh ANS]
        exact ⟨rfl, uh BB⟩
      ·as_aux_lemma =>
        go_simp
        refine (shortS e.dst _ (by have := (uh EF).dst; omega)).mono ?_
        rintro x ws5 ⟨rfl, hb⟩
        replace A := hide ((uh A).ups hb); replace K2 := hide ((uh K2).ups hb); replace RS := hide ((uh RS).up hb); have sz6 := hide (hb.size); replace BB := hide (below_y (uh BB) hb); clear hb; go_wp2_with fail
        refine hK.out _ _ (⟨(uh K2).cell 0 rfl, (uh K2).cell 1 rfl, (uh A).cell 0 rfl, (uh A).cell 1 rfl, (uh A).cell 2 rfl, (uh A).cell 3 rfl, (uh A).cell 4 rfl, (uh A).cell 5 rfl, (uh A).cell 6 rfl, (uh A).cell 7 rfl⟩) (fun hHeld2 => ?_)
        clear hK K hHeld; have hHeld := hHeld2; clear hHeld2
        try simp only [Act.put, p1, p2, p3]
        refine wpAnyH_ready (rs := [3, 15]) (by kernel_rfl) (by simp) ?_
        refine (AllReadyH.cons rfl (fun K hK => ?_) (AllReadyH.cons rfl (fun K hK => ?_) AllReadyH.nil))
        ·as_aux_lemma =>
          go_simp
          obtain ⟨ws6, hX⟩ : ∃ X, X = (ws5.alloc (.cells ([.int .u8 e.kind] : List Value).toArray 5)) := ⟨_, rfl⟩
          rw [← hX]
          have K1x : HasObj ws6 ws5.heap.size 5 [.int .u8 e.kind] := by rw [hX]; exact HasObj.new _ _ _
          have hbn : Below ws5.heap.size ws5 ws6 := by rw [hX]; exact (Below.refl ws5.heap.size ws5).alloc (Nat.le_refl _) _
          clear hX; replace A := hide ((uh A).ups hbn); replace K2 := hide ((uh K2).ups hbn); replace RS := hide ((uh RS).up hbn); have sz7 := hide (hbn.size); replace BB := hide (below_y (uh BB) hbn); clear hbn; have K1 := hide K1x; clear K1x
          refine hK.out _ _ (⟨(uh K2).cell 0 rfl, (uh K2).cell 1 rfl, (uh A).cell 0 rfl, (uh A).cell 1 rfl, (uh A).cell 2 rfl, (uh A).cell 3 rfl, (uh A).cell 4 rfl, (uh A).cell 5 rfl, (uh A).cell 6 rfl, (uh A).cell 7 rfl⟩) (fun hHeld2 => ?_)
          clear hK K hHeld; have hHeld := hHeld2; clear hHeld2
          try simp only [Act.put, p1, p2, p3]
          refine heldMore (fun w' => w'.cell? ⟨ws5.heap.size, 0, none⟩ = some (.int .u8 e.kind)) ((uh K1).cell 0 rfl) hHeld (fun hHeld2 => ?_)
          clear hHeld; have hHeld := hHeld2; clear hHeld2; have K1v := CV1 (ws5.heap.size)
          refine tv 4 11 ?_
          clear K1v
          refine tv 8 15 ?_; refine tv 12 19 ?_
          refine wpAnyH_ready (rs := [15]) (by kernel_rfl) (by simp) ?_
          refine (AllReadyH.cons rfl (fun K hK => ?_) AllReadyH.nil)
          go_simp
          refine (setS e.set _ _ _ (uh SM).set (uh RS)).mono ?_
          rintro x ws7 ⟨rfl, hb⟩
          replace A := hide ((uh A).ups hb); replace K2 := hide ((uh K2).ups hb); replace K1 := hide ((uh K1).ups hb); replace RS := hide ((uh RS).up hb); have sz8 := hide (hb.size); replace BB := hide (below_y (uh BB) hb); clear hb; go_wp2_with fail
          refine hK.out _ _ (⟨(uh K1).cell 0 rfl, (uh K2).cell 0 rfl, (uh K2).cell 1 rfl, (uh A).cell 0 rfl, (uh A).cell 1 rfl, (uh A).cell 2 rfl, (uh A).cell 3 rfl, (uh A).cell 4 rfl, (uh A).cell 5 rfl, (uh A).cell 6 rfl, (uh A).cell 7 rfl⟩) (fun hHeld2 => ?_)
          clear hK K hHeld; have hHeld := hHeld2; clear hHeld2
          try simp only [Act.put, p1, p2, p3]
          refine wpAnyH_ready (rs := [16]) (by kernel_rfl) (by simp) ?_
          refine (AllReadyH.cons rfl (fun K hK => ?_) AllReadyH.nil)
          go_simp
          refine (shortS (stB e.set) _ (by have := st_size e.set; omega)).mono ?_
          rintro x ws8 ⟨rfl, hb⟩
          replace A := hide ((uh A).ups hb); replace K2 := hide ((uh K2).ups hb); replace K1 := hide ((uh K1).ups hb); replace RS := hide ((uh RS).up hb); have sz9 := hide (hb.size); replace BB := hide (below_y (uh BB) hb); clear hb; go_wp2_with fail
          refine hK.out _ _ (⟨(uh K1).cell 0 rfl, (uh K2).cell 0 rfl, (uh K2).cell 1 rfl, (uh A).cell 0 rfl, (uh A).cell 1 rfl, (uh A).cell 2 rfl, (uh A).cell 3 rfl, (uh A).cell 4 rfl, (uh A).cell 5 rfl, (uh A).cell 6 rfl, (uh A).cell 7 rfl⟩) (fun hHeld2 => ?_)
          clear hK K hHeld; have hHeld := hHeld2; clear hHeld2
          try simp only [Act.put, p1, p2, p3]
          refine tv 17 24 ?_; refine tv 26 33 ?_
          refine wpAnyH_ready (rs := [30]) (by kernel_rfl) (by simp) ?_
          refine (AllReadyH.cons rfl (fun K hK => ?_) AllReadyH.nil)
          go_simp
          refine (varS (e.since + 1) _ (by have := (uh EF).since; omega) (by have := (uh EF).since; omega)).mono ?_
          rintro x ws9 ⟨rfl, hb⟩
          replace A := hide ((uh A).ups hb); replace K2 := hide ((uh K2).ups hb); replace K1 := hide ((uh K1).ups hb); replace RS := hide ((uh RS).up hb); have sz10 := hide (hb.size); replace BB := hide (below_y (uh BB) hb); clear hb; go_wp2_with fail
          refine hK.out _ _ (⟨(uh K1).cell 0 rfl, (uh K2).cell 0 rfl, (uh K2).cell 1 rfl, (uh A).cell 0 rfl, (uh A).cell 1 rfl, (uh A).cell 2 rfl, (uh A).cell 3 rfl, (uh A).cell 4 rfl, (uh A).cell 5 rfl, (uh A).cell 6 rfl, (uh A).cell 7 rfl⟩) (fun hHeld2 => ?_)
          clear hK K hHeld; have hHeld := hHeld2; clear hHeld2
          try simp only [Act.put, p1, p2, p3]
          refine tv 31 38 ?_
          refine wpAnyH_ready (rs := [34]) (by kernel_rfl) (by simp) ?_
          refine (AllReadyH.cons rfl (fun K hK => ?_) AllReadyH.nil)
          go_simp
          refine (shortS e.text _ (by have := (uh EF).text; omega)).mono ?_
          rintro x ws10 ⟨rfl, hb⟩
          replace A := hide ((uh A).ups hb); replace K2 := hide ((uh K2).ups hb); replace K1 := hide ((uh K1).ups hb); replace RS := hide ((uh RS).up hb); have sz11 := hide (hb.size); replace BB := hide (below_y (uh BB) hb); clear hb; go_wp2_with fail
          refine hK.out _ _ (⟨(uh K1).cell 0 rfl, (uh K2).cell 0 rfl, (uh K2).cell 1 rfl, (uh A).cell 0 rfl, (uh A).cell 1 rfl, (uh A).cell 2 rfl, (uh A).cell 3 rfl, (uh A).cell 4 rfl, (uh A).cell 5 rfl, (uh A).cell 6 rfl, (uh A).cell 7 rfl⟩) (fun hHeld2 => ?_)
          clear hK K hHeld; have hHeld := hHeld2; clear hHeld2
          try simp only [Act.put, p1, p2, p3]
          refine tv 35 42 ?_; refine tv 36 2 ?_; refine tv 37 3 ?_
          refine wpAnyH_done (by kernel_rfl) ?_ _
          go_wp2
          go_ret2
          rw [uh ANS]
          exact ⟨rfl, uh BB⟩
        ·as_aux_lemma =>
          go_simp
          refine (setS e.set _ _ _ (uh SM).set (uh RS)).mono ?_
          rintro x ws6 ⟨rfl, hb⟩
          replace A := hide ((uh A).ups hb); replace K2 := hide ((uh K2).ups hb); replace RS := hide ((uh RS).up hb); have sz7 := hide (hb.size); replace BB := hide (below_y (uh BB) hb); clear hb; go_wp2_with fail
          refine hK.out _ _ (⟨(uh K2).cell 0 rfl, (uh K2).cell 1 rfl, (uh A).cell 0 rfl, (uh A).cell 1 rfl, (uh A).cell 2 rfl, (uh A).cell 3 rfl, (uh A).cell 4 rfl, (uh A).cell 5 rfl, (uh A).cell 6 rfl, (uh A).cell 7 rfl⟩) (fun hHeld2 => ?_)
          clear hK K hHeld; have hHeld := hHeld2; clear hHeld2
          try simp only [Act.put, p1, p2, p3]
          refine wpAnyH_ready (rs := [3, 16]) (by kernel_rfl) (by simp) ?_
          refine (AllReadyH.cons rfl (fun K hK => ?_) (AllReadyH.cons rfl (fun K hK => ?_) AllReadyH.nil))
          ·as_aux_lemma =>
            go_simp
            obtain ⟨ws7, hX⟩ : ∃ X, X = (ws6.alloc (.cells ([.int .u8 e.kind] : List Value).toArray 5)) := ⟨_, rfl⟩
            rw [← hX]
            have K1x : HasObj ws7 ws6.heap.size 5 [.int .u8 e.kind] := by rw [hX]; exact HasObj.new _ _ _
            have hbn : Below ws6.heap.size ws6 ws7 := by rw [hX]; exact (Below.refl ws6.heap.size ws6).alloc (Nat.le_refl _) _
            clear hX; replace A := hide ((uh A).ups hbn); replace K2 := hide ((uh K2).ups hbn); replace RS := hide ((uh RS).up hbn); have sz8 := hide (hbn.size); replace BB := hide (below_y (uh BB) hbn); clear hbn; have K1 := hide K1x; clear K1x
            refine hK.out _ _ (⟨(uh K2).cell 0 rfl, (uh K2).cell 1 rfl, (uh A).cell 0 rfl, (uh A).cell 1 rfl, (uh A).cell 2 rfl, (uh A).cell 3 rfl, (uh A).cell 4 rfl, (uh A).cell 5 rfl, (uh A).cell 6 rfl, (uh A).cell 7 rfl⟩) (fun hHeld2 => ?_)
            clear hK K hHeld; have hHeld := hHeld2; clear hHeld2
            try simp only [Act.put, p1, p2, p3]
            refine heldMore (fun w' => w'.cell? ⟨ws6.heap.size, 0, none⟩ = some (.int .u8 e.kind)) ((uh K1).cell 0 rfl) hHeld (fun hHeld2 => ?_)
            clear hHeld; have hHeld := hHeld2; clear hHeld2; have K1v := CV1 (ws6.heap.size)
            refine tv 4 11 ?_
            clear K1v
            refine tv 8 15 ?_; refine tv 12 19 ?_
            refine wpAnyH_ready (rs := [16]) (by kernel_rfl) (by simp) ?_
            refine (AllReadyH.cons rfl (fun K hK => ?_) AllReadyH.nil)
            go_simp
            refine (shortS (stB e.set) _ (by have := st_size e.set; omega)).mono ?_
            rintro x ws8 ⟨rfl, hb⟩
            replace A := hide ((uh A).ups hb); replace K2 := hide ((uh K2).ups hb); replace K1 := hide ((uh K1).ups hb); replace RS := hide ((uh RS).up hb); have sz9 := hide (hb.size); replace BB := hide (below_y (uh BB) hb); clear hb; go_wp2_with fail
            refine hK.out _ _ (⟨(uh K1).cell 0 rfl, (uh K2).cell 0 rfl, (uh K2).cell 1 rfl, (uh A).cell 0 rfl, (uh A).cell 1 rfl, (uh A).cell 2 rfl, (uh A).cell 3 rfl, (uh A).cell 4 rfl, (uh A).cell 5 rfl, (uh A).cell 6 rfl, (uh A).cell 7 rfl⟩) (fun hHeld2 => ?_)
            clear hK K hHeld; have hHeld := hHeld2; clear hHeld2
            try simp only [Act.put, p1, p2, p3]
            refine tv 17 24 ?_; refine tv 26 33 ?_
            refine wpAnyH_ready (rs := [30]) (by kernel_rfl) (by simp) ?_
            refine (AllReadyH.cons rfl (fun K hK => ?_) AllReadyH.nil)
            go_simp
            refine (varS (e.since + 1) _ (by have := (uh EF).since; omega) (by have := (uh EF).since; omega)).mono ?_
            rintro x ws9 ⟨rfl, hb⟩
            replace A := hide ((uh A).ups hb); replace K2 := hide ((uh K2).ups hb); replace K1 := hide ((uh K1).ups hb); replace RS := hide ((uh RS).up hb); have sz10 := hide (hb.size); replace BB := hide (below_y (uh BB) hb); clear hb; go_wp2_with fail
            refine hK.out _ _ (⟨(uh K1).cell 0 rfl, (uh K2).cell 0 rfl, (uh K2).cell 1 rfl, (uh A).cell 0 rfl, (uh A).cell 1 rfl, (uh A).cell 2 rfl, (uh A).cell 3 rfl, (uh A).cell 4 rfl, (uh A).cell 5 rfl, (uh A).cell 6 rfl, (uh A).cell 7 rfl⟩) (fun hHeld2 => ?_)
            clear hK K hHeld; have hHeld := hHeld2; clear hHeld2
            try simp only [Act.put, p1, p2, p3]
            refine tv 31 38 ?_
            refine wpAnyH_ready (rs := [34]) (by kernel_rfl) (by simp) ?_
            refine (AllReadyH.cons rfl (fun K hK => ?_) AllReadyH.nil)
            go_simp
            refine (shortS e.text _ (by have := (uh EF).text; omega)).mono ?_
            rintro x ws10 ⟨rfl, hb⟩
            replace A := hide ((uh A).ups hb); replace K2 := hide ((uh K2).ups hb); replace K1 := hide ((uh K1).ups hb); replace RS := hide ((uh RS).up hb); have sz11 := hide (hb.size); replace BB := hide (below_y (uh BB) hb); clear hb; go_wp2_with fail
            refine hK.out _ _ (⟨(uh K1).cell 0 rfl, (uh K2).cell 0 rfl, (uh K2).cell 1 rfl, (uh A).cell 0 rfl, (uh A).cell 1 rfl, (uh A).cell 2 rfl, (uh A).cell 3 rfl, (uh A).cell 4 rfl, (uh A).cell 5 rfl, (uh A).cell 6 rfl, (uh A).cell 7 rfl⟩) (fun hHeld2 => ?_)
            clear hK K hHeld; have hHeld := hHeld2; clear hHeld2
            try simp only [Act.put, p1, p2, p3]
            refine tv 35 42 ?_; refine tv 36 2 ?_; refine tv 37 3 ?_
            refine wpAnyH_done (by kernel_rfl) ?_ _
            go_wp2
            go_ret2
            rw [uh ANS]
            exact ⟨rfl, uh BB⟩
          ·as_aux_lemma =>
            go_simp
            refine (shortS (stB e.set) _ (by have := st_size e.set; omega)).mono ?_
            rintro x ws7 ⟨rfl, hb⟩
            replace A := hide ((uh A).ups hb); replace K2 := hide ((uh K2).ups hb); replace RS := hide ((uh RS).up hb); have sz8 := hide (hb.size); replace BB := hide (below_y (uh BB) hb); clear hb; go_wp2_with fail
            refine hK.out _ _ (⟨(uh K2).cell 0 rfl, (uh K2).cell 1 rfl, (uh A).cell 0 rfl, (uh A).cell 1 rfl, (uh A).cell 2 rfl, (uh A).cell 3 rfl, (uh A).cell 4 rfl, (uh A).cell 5 rfl, (uh A).cell 6 rfl, (uh A).cell 7 rfl⟩) (fun hHeld2 => ?_)
            clear hK K hHeld; have hHeld := hHeld2; clear hHeld2
            try simp only [Act.put, p1, p2, p3]
            refine wpAnyH_ready (rs := [3, 30]) (by kernel_rfl) (by simp) ?_
            refine (AllReadyH.cons rfl (fun K hK => ?_) (AllReadyH.cons rfl (fun K hK => ?_) AllReadyH.nil))
            ·as_aux_lemma =>
              go_simp
              obtain ⟨ws8, hX⟩ : ∃ X, X = (ws7.alloc (.cells ([.int .u8 e.kind] : List Value).toArray 5)) := ⟨_, rfl⟩
              rw [← hX]
              have K1x : HasObj ws8 ws7.heap.size 5 [.int .u8 e.kind] := by rw [hX]; exact HasObj.new _ _ _
              have hbn : Below ws7.heap.size ws7 ws8 := by rw [hX]; exact (Below.refl ws7.heap.size ws7).alloc (Nat.le_refl _) _
              clear hX; replace A := hide ((uh A).ups hbn); replace K2 := hide ((uh K2).ups hbn); replace RS := hide ((uh RS).up hbn); have sz9 := hide (hbn.size); replace BB := hide (below_y (uh BB) hbn); clear hbn; have K1 := hide K1x; clear K1x
              refine hK.out _ _ (⟨(uh K2).cell 0 rfl, (uh K2).cell 1 rfl, (uh A).cell 0 rfl, (uh A).cell 1 rfl, (uh A).cell 2 rfl, (uh A).cell 3 rfl, (uh A).cell 4 rfl, (uh A).cell 5 rfl, (uh A).cell 6 rfl, (uh A).cell 7 rfl⟩) (fun hHeld2 => ?_)
              clear hK K hHeld; have hHeld := hHeld2; clear hHeld2
              try simp only [Act.put, p1, p2, p3]
              refine heldMore (fun w' => w'.cell? ⟨ws7.heap.size, 0, none⟩ = some (.int .u8 e.kind)) ((uh K1).cell 0 rfl) hHeld (fun hHeld2 => ?_)
              clear hHeld; have hHeld := hHeld2; clear hHeld2; have K1v := CV1 (ws7.heap.size)
              refine tv 4 11 ?_
              clear K1v
              refine tv 8 15 ?_; refine tv 12 19 ?_; refine tv 17 24 ?_; refine tv 26 33 ?_
              refine wpAnyH_ready (rs := [30]) (by kernel_rfl) (by simp) ?_
              refine (AllReadyH.cons rfl (fun K hK => ?_) AllReadyH.nil)
              go_simp
              refine (varS (e.since + 1) _ (by have := (uh EF).since; omega) (by have := (uh EF).since; omega)).mono ?_
              rintro x ws9 ⟨rfl, hb⟩
              replace A := hide ((uh A).ups hb); replace K2 := hide ((uh K2).ups hb); replace K1 := hide ((uh K1).ups hb); replace RS := hide ((uh RS).up hb); have sz10 := hide (hb.size); replace BB := hide (below_y (uh BB) hb); clear hb; go_wp2_with fail
              refine hK.out _ _ (⟨(uh K1).cell 0 rfl, (uh K2).cell 0 rfl, (uh K2).cell 1 rfl, (uh A).cell 0 rfl, (uh A).cell 1 rfl, (uh A).cell 2 rfl, (uh A).cell 3 rfl, (uh A).cell 4 rfl, (uh A).cell 5 rfl, (uh A).cell 6 rfl, (uh A).cell 7 rfl⟩) (fun hHeld2 => ?_)
              clear hK K hHeld; have hHeld := hHeld2; clear hHeld2
              try simp only [Act.put, p1, p2, p3]
              refine tv 31 38 ?_
              refine wpAnyH_ready (rs := [34]) (by kernel_rfl) (by simp) ?_
              refine (AllReadyH.cons rfl (fun K hK => ?_) AllReadyH.nil)
              go_simp
              refine (shortS e.text _ (by have := (uh EF).text; omega)).mono ?_
              rintro x ws10 ⟨rfl, hb⟩
              replace A := hide ((uh A).ups hb); replace K2 := hide ((uh K2).ups hb); replace K1 := hide ((uh K1).ups hb); replace RS := hide ((uh RS).up hb); have sz11 := hide (hb.size); replace BB := hide (below_y (uh BB) hb); clear hb; go_wp2_with fail
              refine hK.out _ _ (⟨(uh K1).cell 0 rfl, (uh K2).cell 0 rfl, (uh K2).cell 1 rfl, (uh A).cell 0 rfl, (uh A).cell 1 rfl, (uh A).cell 2 rfl, (uh A).cell 3 rfl, (uh A).cell 4 rfl, (uh A).cell 5 rfl, (uh A).cell 6 rfl, (uh A).cell 7 rfl⟩) (fun hHeld2 => ?_)
              clear hK K hHeld; have hHeld := hHeld2; clear hHeld2
              try simp only [Act.put, p1, p2, p3]
              refine tv 35 42 ?_; refine tv 36 2 ?_; refine tv 37 3 ?_
              refine wpAnyH_done (by kernel_rfl) ?_ _
              go_wp2
              go_ret2
              rw [uh ANS]
              exact ⟨rfl, uh BB⟩
            ·as_aux_lemma =>
              go_simp
              refine (varS (e.since + 1) _ (by have := (uh EF).since; omega) (by have := (uh EF).since; omega)).mono ?_
              rintro x ws8 ⟨rfl, hb⟩
              replace A := hide ((uh A).ups hb); replace K2 := hide ((uh K2).ups hb); replace RS := hide ((uh RS).up hb); have sz9 := hide (hb.size); replace BB := hide (below_y (uh BB) hb); clear hb; go_wp2_with fail
              refine hK.out _ _ (⟨(uh K2).cell 0 rfl, (uh K2).cell 1 rfl, (uh A).cell 0 rfl, (uh A).cell 1 rfl, (uh A).cell 2 rfl, (uh A).cell 3 rfl, (uh A).cell 4 rfl, (uh A).cell 5 rfl, (uh A).cell 6 rfl, (uh A).cell 7 rfl⟩) (fun hHeld2 => ?_)
              clear hK K hHeld; have hHeld := hHeld2; clear hHeld2
              try simp only [Act.put, p1, p2, p3]
              refine wpAnyH_ready (rs := [3, 34]) (by kernel_rfl) (by simp) ?_
              refine (AllReadyH.cons rfl (fun K hK => ?_) (AllReadyH.cons rfl (fun K hK => ?_) AllReadyH.nil))
              ·as_aux_lemma =>
                go_simp
                obtain ⟨ws9, hX⟩ : ∃ X, X = (ws8.alloc (.cells ([.int .u8 e.kind] : List Value).toArray 5)) := ⟨_, rfl⟩
                rw [← hX]
                have K1x : HasObj ws9 ws8.heap.size 5 [.int .u8 e.kind] := by rw [hX]; exact HasObj.new _ _ _
                have hbn : Below ws8.heap.size ws8 ws9 := by rw [hX]; exact (Below.refl ws8.heap.size ws8).alloc (Nat.le_refl _) _
                clear hX; replace A := hide ((uh A).ups hbn); replace K2 := hide ((uh K2).ups hbn); replace RS := hide ((uh RS).up hbn); have sz10 := hide (hbn.size); replace BB := hide (below_y (uh BB) hbn); clear hbn; have K1 := hide K1x; clear K1x
                refine hK.out _ _ (⟨(uh K2).cell 0 rfl, (uh K2).cell 1 rfl, (uh A).cell 0 rfl, (uh A).cell 1 rfl, (uh A).cell 2 rfl, (uh A).cell 3 rfl, (uh A).cell 4 rfl, (uh A).cell 5 rfl, (uh A).cell 6 rfl, (uh A).cell 7 rfl⟩) (fun hHeld2 => ?_)
                clear hK K hHeld; have hHeld := hHeld2; clear hHeld2
                try simp only [Act.put, p1, p2, p3]
                refine heldMore (fun w' => w'.cell? ⟨ws8.heap.size, 0, none⟩ = some (.int .u8 e.kind)) ((uh K1).cell 0 rfl) hHeld (fun hHeld2 => ?_)
                clear hHeld; have hHeld := hHeld2; clear hHeld2; have K1v := CV1 (ws8.heap.size)
                refine tv 4 11 ?_
                clear K1v
                refine tv 8 15 ?_; refine tv 12 19 ?_; refine tv 17 24 ?_; refine tv 26 33 ?_; refine tv 31 38 ?_
                refine wpAnyH_ready (rs := [34]) (by kernel_rfl) (by simp) ?_
                refine (AllReadyH.cons rfl (fun K hK => ?_) AllReadyH.nil)
                go_simp
                refine (shortS e.text _ (by have := (uh EF).text; omega)).mono ?_
                rintro x ws10 ⟨rfl, hb⟩
                replace A := hide ((uh A).ups hb); replace K2 := hide ((uh K2).ups hb); replace K1 := hide ((uh K1).ups hb); replace RS := hide ((uh RS).up hb); have sz11 := hide (hb.size); replace BB := hide (below_y (uh BB) hb); clear hb; go_wp2_with fail
                refine hK.out _ _ (⟨(uh K1).cell 0 rfl, (uh K2).cell 0 rfl, (uh K2).cell 1 rfl, (uh A).cell 0 rfl, (uh A).cell 1 rfl, (uh A).cell 2 rfl, (uh A).cell 3 rfl, (uh A).cell 4 rfl, (uh A).cell 5 rfl, (uh A).cell 6 rfl, (uh A).cell 7 rfl⟩) (fun hHeld2 => ?_)
                clear hK K hHeld; have hHeld := hHeld2; clear hHeld2
                try simp only [Act.put, p1, p2, p3]
                refine tv 35 42 ?_; refine tv 36 2 ?_; refine tv 37 3 ?_
                refine wpAnyH_done (by kernel_rfl) ?_ _
                go_wp2
                go_ret2
                rw [uh ANS]
                exact ⟨rfl, uh BB⟩
              ·as_aux_lemma =>
                go_simp
                refine (shortS e.text _ (by have := (uh EF).text; omega)).mono ?_
                rintro x ws9 ⟨rfl, hb⟩
                replace A := hide ((uh A).ups hb); replace K2 := hide ((uh K2).ups hb); replace RS := hide ((uh RS).up hb); have sz10 := hide (hb.size); replace BB := hide (below_y (uh BB) hb); clear hb; go_wp2_with fail
                refine hK.out _ _ (⟨(uh K2).cell 0 rfl, (uh K2).cell 1 rfl, (uh A).cell 0 rfl, (uh A).cell 1 rfl, (uh A).cell 2 rfl, (uh A).cell 3 rfl, (uh A).cell 4 rfl, (uh A).cell 5 rfl, (uh A).cell 6 rfl, (uh A).cell 7 rfl⟩) (fun hHeld2 => ?_)
                clear hK K hHeld; have hHeld := hHeld2; clear hHeld2
                try simp only [Act.put, p1, p2, p3]
                refine wpAnyH_ready (rs := [3]) (by kernel_rfl) (by simp) ?_
                refine (AllReadyH.cons rfl (fun K hK => ?_) AllReadyH.nil)
                go_simp
                obtain ⟨ws10, hX⟩ : ∃ X, X = (ws9.alloc (.cells ([.int .u8 e.kind] : List Value).toArray 5)) := ⟨_, rfl⟩
                rw [← hX]
                have K1x : HasObj ws10 ws9.heap.size 5 [.int .u8 e.kind] := by rw [hX]; exact HasObj.new _ _ _
                have hbn : Below ws9.heap.size ws9 ws10 := by rw [hX]; exact (Below.refl ws9.heap.size ws9).alloc (Nat.le_refl _) _
                clear hX; replace A := hide ((uh A).ups hbn); replace K2 := hide ((uh K2).ups hbn); replace RS := hide ((uh RS).up hbn); have sz11 := hide (hbn.size); replace BB := hide (below_y (uh BB) hbn); clear hbn; have K1 := hide K1x; clear K1x
                refine hK.out _ _ (⟨(uh K2).cell 0 rfl, (uh K2).cell 1 rfl, (uh A).cell 0 rfl, (uh A).cell 1 rfl, (uh A).cell 2 rfl, (uh A).cell 3 rfl, (uh A).cell 4 rfl, (uh A).cell 5 rfl, (uh A).cell 6 rfl, (uh A).cell 7 rfl⟩) (fun hHeld2 => ?_)
                clear hK K hHeld; have hHeld := hHeld2; clear hHeld2
                try simp only [Act.put, p1, p2, p3]
                refine heldMore (fun w' => w'.cell? ⟨ws9.heap.size, 0, none⟩ = some (.int .u8 e.kind)) ((uh K1).cell 0 rfl) hHeld (fun hHeld2 => ?_)
                clear hHeld; have hHeld := hHeld2; clear hHeld2; have K1v := CV1 (ws9.heap.size)
                refine tv 4 11 ?_
                clear K1v
                refine tv 8 15 ?_; refine tv 12 19 ?_; refine tv 17 24 ?_; refine tv 26 33 ?_; refine tv 31 38 ?_; refine tv 35 42 ?_; refine tv 36 2 ?_; refine tv 37 3 ?_
                refine wpAnyH_done (by kernel_rfl) ?_ _
                go_wp2
                go_ret2
                rw [uh ANS]
                exact ⟨rfl, uh BB⟩
end Go.Proofs.YtecognggnbopaacDoor
