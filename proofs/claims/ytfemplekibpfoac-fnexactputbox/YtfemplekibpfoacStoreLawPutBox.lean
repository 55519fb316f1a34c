/- The walk of FnExactPutBox. Made by gen_storelaws.py. -/
import Derived.Test.YtfemplekibpfoacStoreLaws1
import Derived.Deep.Cut
namespace Go.Proofs.Ytfemplekibpfoac
open Go.RowKit
open Plain
set_option linter.unusedVariables false
set_option linter.unusedSimpArgs false

namespace Plain
theorem sizeBs_cons (x : Bx) (l : List Bx) : sizeBs (x :: l) = 1 + x.mails.length + x.tombs.length + sizeBs l := by simp [sizeBs]
theorem putX_small (b : Bx) (l : List Bx) : sizeBs (putX b l) ≤ sizeBs l + (1 + b.mails.length + b.tombs.length) := by
  induction l with
  | nil => exact Nat.zero_le _
  | cons x l ih =>
    unfold putX
    split
    · rw [sizeBs_cons, sizeBs_cons]; omega
    · rw [sizeBs_cons, sizeBs_cons]; omega
theorem putX_mem {b y : Bx} {l : List Bx} (h : y ∈ putX b l) : y = b ∨ y ∈ l := by
  induction l with
  | nil => cases h
  | cons x l ih =>
    unfold putX at h
    split at h
    · rcases List.mem_cons.1 h with h | h
      · exact .inl h
      · exact .inr (List.mem_cons_of_mem _ h)
    · rcases List.mem_cons.1 h with h | h
      · exact .inr (by rw [h]; exact List.mem_cons_self)
      · rcases ih h with h | h
        · exact .inl h
        · exact .inr (List.mem_cons_of_mem _ h)
theorem putX_a {b : Bx} {l : List Bx} (h : SmallBs 1048576 l) (hb : SmallBx 1048576 b) : SmallA (putX b l) := by
  refine ⟨Nat.le_trans (putX_small b l) (by have := h.sum; have := hb.2.1.1; have := hb.2.2; omega), fun y hy => ?_⟩
  rcases putX_mem hy with rfl | hy
  · exact ⟨hb.2.1.1, hb.2.2⟩
  · exact h.a.each y hy
end Plain
set_option maxHeartbeats 16000000 in
set_option maxRecDepth 100000 in
theorem FnExactPutBox_walk (s : Sx) (a0 : Option Addr) (c0 : Nat) (b : Bx) (a1 a2 : Option Addr) (c1 c2 : Nat) (w : World) (h : ArgSt w.heap.size w a0 s)
    (h2 : ArgBx w.heap.size w a1 a2 b)
    (CI : ∀ (v m t : Value) (B B2 : Nat) (W : World), SmallBs 1048576 s.boxes → SmallBx 1048576 b → ReadSt B W v s.boxes → OwnBx B2 W m t b → Below w.heap.size w W → Calls Try.prog 13 #[.agg #[v, .int .i64 s.valid], boxV b m t] W fun e w' => ∃ v', e = .returned (.agg #[v', .int .i64 s.valid]) ∧ OwnSt W.heap.size w' v' (putX b s.boxes) ∧ Below W.heap.size W w')
    (SI : ∀ (v m t : Value) (B B2 : Nat) (W : World), SmallBs 1048576 s.boxes → SmallBx 1048576 b → ReadSt B W v s.boxes → OwnBx B2 W m t b → Calls Try.prog 10 #[.agg #[v, .int .i64 s.valid], boxV b m t] W fun e w' => ∃ v', e = .returned (.agg #[v', .int .i64 s.valid]) ∧ ReadSt W.heap.size w' v' (putX b s.boxes) ∧ Below W.heap.size W w') :
    Calls Try.prog 3 #[.agg #[.slice a0 s.boxes.length c0, .int .i64 s.valid], .agg #[.string b.name, .int .i64 b.valid, .int .i64 b.next, .int .i64 b.mod, .slice a1 b.mails.length c1, .slice a2 b.tombs.length c2, .int .i64 b.hor]] w fun e w' => e = .returned (.bool true) ∧ Below w.heap.size w w' := by
  have HA := hide h
  have CH := hide CI
  have SH := hide SI
  clear h CI SI
  have BB := hide (Below.refl w.heap.size w)
  obtain ⟨w1, hA⟩ : ∃ X, X = w.alloc (.cells ([.slice a0 s.boxes.length c0, .int .i64 s.valid] : List Value).toArray 24) := ⟨_, rfl⟩
  have Ax : HasObj w1 w.heap.size 24 [.slice a0 s.boxes.length c0, .int .i64 s.valid] := by rw [hA]; exact HasObj.new _ _ _
  have hbn : Below w.heap.size w w1 := by rw [hA]; exact (Below.refl _ _).alloc (Nat.le_refl _) _
  have loA : w.heap.size ≤ w.heap.size := (unhide BB).size
  have EA := hA.symm
  clear hA
  have sz1 := hide (hbn.size)
  have BB_ := hide (below_y (unhide BB) hbn)
  clear BB
  have BB := BB_
  clear BB_
  clear hbn
  have A := hide Ax
  clear Ax
  have H2 := hide h2
  clear h2
  obtain ⟨w2, hE⟩ : ∃ X, X = w1.alloc (.cells ([.string b.name, .int .i64 b.valid, .int .i64 b.next, .int .i64 b.mod, .slice a1 b.mails.length c1, .slice a2 b.tombs.length c2, .int .i64 b.hor] : List Value).toArray 28) := ⟨_, rfl⟩
  have Ex : HasObj w2 w1.heap.size 28 [.string b.name, .int .i64 b.valid, .int .i64 b.next, .int .i64 b.mod, .slice a1 b.mails.length c1, .slice a2 b.tombs.length c2, .int .i64 b.hor] := by rw [hE]; exact HasObj.new _ _ _
  have hbn : Below w1.heap.size w1 w2 := by rw [hE]; exact (Below.refl _ _).alloc (Nat.le_refl _) _
  have neAE : w.heap.size ≠ w1.heap.size := Nat.ne_of_lt (unhide A).lt
  have loE : w.heap.size ≤ w1.heap.size := (unhide BB).size
  have EE := hE.symm
  clear hE
  have A_ := hide ((unhide A).ups hbn)
  clear A
  have A := A_
  clear A_
  have sz2 := hide (hbn.size)
  have BB_ := hide (below_y (unhide BB) hbn)
  clear BB
  have BB := BB_
  clear BB_
  clear hbn
  have E := hide Ex
  clear Ex
  have SZ := hide (fun W (hb : Below w.heap.size w W) => szStore_sum s a0 c0 1048576 W (Nat.le_refl _) ((unhide HA).up hb))
  have Ac0_1 := (unhide A).cell 0 rfl
  have Ac1_1 := (unhide A).cell 1 rfl
  go_enter Try.func3, Try.ntmps3
  go_wp2_with fail
  clear Ac0_1 Ac1_1 EA EE
  refine (unhide SZ _ (unhide BB)).mono ?_
  rintro e w3 ⟨⟨q, rfl, hq⟩, hb⟩
  have A_ := hide ((unhide A).ups hb)
  clear A
  have A := A_
  clear A_
  have E_ := hide ((unhide E).ups hb)
  clear E
  have E := E_
  clear E_
  have sz3 := hide (hb.size)
  have BB_ := hide (below_y (unhide BB) hb)
  clear BB
  have BB := BB_
  clear BB_
  clear hb
  clear SZ
  rcases hq with rfl | ⟨q, rfl, hq, hsm⟩
  · go_wp2
    go_ret
    exact ⟨rfl, unhide BB⟩
  have iq : ¬ (q : Int) < 0 := by omega
  have SM := hide hsm
  clear hsm
  have TS := hide (fun W (hb : Below w.heap.size w W) => toStore_any s a0 c0 W (unhide SM) ((unhide HA).up hb))
  have SB := hide (fun W (hb : Below w.heap.size w W) => szBox_sum b q (by omega) a1 a2 c1 c2 W ((unhide H2).up hb))
  have Ec0_2 := (unhide E).cell 0 rfl
  have Ec1_2 := (unhide E).cell 1 rfl
  have Ec2_2 := (unhide E).cell 2 rfl
  have Ec3_2 := (unhide E).cell 3 rfl
  have Ec4_2 := (unhide E).cell 4 rfl
  have Ec5_2 := (unhide E).cell 5 rfl
  have Ec6_2 := (unhide E).cell 6 rfl
  go_wp2_with fail
  clear Ec0_2 Ec1_2 Ec2_2 Ec3_2 Ec4_2 Ec5_2 Ec6_2
  refine (unhide SB _ (unhide BB)).mono ?_
  rintro e w4 ⟨⟨r, rfl, hr⟩, hb⟩
  have A_ := hide ((unhide A).ups hb)
  clear A
  have A := A_
  clear A_
  have E_ := hide ((unhide E).ups hb)
  clear E
  have E := E_
  clear E_
  have sz4 := hide (hb.size)
  have BB_ := hide (below_y (unhide BB) hb)
  clear BB
  have BB := BB_
  clear BB_
  clear hb
  clear SB
  rcases hr with rfl | ⟨r, rfl, hr, hsb⟩
  · go_wp2
    go_ret
    exact ⟨rfl, unhide BB⟩
  have ir : ¬ (r : Int) < 0 := by omega
  have hq9 : q ≤ 1048576 := by omega
  have BM : Hid (SmallBx 1048576 b) := ⟨Nat.le_trans hsb.1 hq9, ⟨Nat.le_trans hsb.2.1.1 hq9, fun x hx => Nat.le_trans (hsb.2.1.2 x hx) hq9⟩, Nat.le_trans hsb.2.2 hq9⟩
  clear hsb hr
  have TB := hide (fun (W : World) (hb : Below w.heap.size w W) => toBox_any b a1 a2 c1 c2 W (unhide BM) ((unhide H2).up hb))
  have CJ := hide (fun (v m t : Value) (B B2 : Nat) (W : World) (h : ReadSt B W v s.boxes) (h2 : OwnBx B2 W m t b) hb => unhide CH v m t B B2 W (unhide SM) (unhide BM) h h2 hb)
  have SJ := hide (fun (v m t : Value) (B B2 : Nat) (W : World) (h : ReadSt B W v s.boxes) (h2 : OwnBx B2 W m t b) => unhide SH v m t B B2 W (unhide SM) (unhide BM) h h2)
  have SA := hide (putX_a (unhide SM) (unhide BM))
  clear CH SH
  generalize putX b s.boxes = z at *
  have Ac0_3 := (unhide A).cell 0 rfl
  have Ac1_3 := (unhide A).cell 1 rfl
  have Ec0_4 := (unhide E).cell 0 rfl
  have Ec1_4 := (unhide E).cell 1 rfl
  have Ec2_4 := (unhide E).cell 2 rfl
  have Ec3_4 := (unhide E).cell 3 rfl
  have Ec4_4 := (unhide E).cell 4 rfl
  have Ec5_4 := (unhide E).cell 5 rfl
  have Ec6_4 := (unhide E).cell 6 rfl
  go_wp2
  have B0 := BB
  go_cut [6] from 14 (fun s6 wc => ∃ (aZ : Option Addr) (cZ : Nat) (LZ : List Lb) (bxW : Nat), s6 = .pointer (some ⟨bxW, 0, none⟩) ∧ LZ.map (·.b) = z ∧ OwnBs w4.heap.size wc (.slice aZ LZ.length cZ) LZ ∧ HasObj wc bxW 33 [.slice aZ LZ.length cZ, .int .i64 s.valid] ∧ w4.heap.size ≤ bxW ∧ Below w4.heap.size w4 wc)
  case first =>
    clear BB
    have BB := hide (Below.refl w4.heap.size w4)
    refine wp_region_held_drew (S := fun w' => w'.cell? ⟨w.heap.size, 0, none⟩ = some (.slice a0 s.boxes.length c0) ∧ w'.cell? ⟨w.heap.size, 1, none⟩ = some (.int .i64 s.valid) ∧ w'.cell? ⟨w1.heap.size, 0, none⟩ = some (.string b.name) ∧ w'.cell? ⟨w1.heap.size, 1, none⟩ = some (.int .i64 b.valid) ∧ w'.cell? ⟨w1.heap.size, 2, none⟩ = some (.int .i64 b.next) ∧ w'.cell? ⟨w1.heap.size, 3, none⟩ = some (.int .i64 b.mod) ∧ w'.cell? ⟨w1.heap.size, 4, none⟩ = some (.slice a1 b.mails.length c1) ∧ w'.cell? ⟨w1.heap.size, 5, none⟩ = some (.slice a2 b.tombs.length c2) ∧ w'.cell? ⟨w1.heap.size, 6, none⟩ = some (.int .i64 b.hor)) (by kernel_rfl) (⟨(unhide A).cell 0 rfl, (unhide A).cell 1 rfl, (unhide E).cell 0 rfl, (unhide E).cell 1 rfl, (unhide E).cell 2 rfl, (unhide E).cell 3 rfl, (unhide E).cell 4 rfl, (unhide E).cell 5 rfl, (unhide E).cell 6 rfl⟩) (fun hHeld => ?_)
    have A_ := hide ((unhide A).drew)
    clear A
    have A := A_
    clear A_
    have E_ := hide ((unhide E).drew)
    clear E
    have E := E_
    clear E_
    have BB_ := hide ((unhide BB).drew)
    clear BB
    have BB := BB_
    clear BB_
    have sz5 : Hid (w4.heap.size ≤ w4.drew.heap.size) := Nat.le_refl _
    refine takeVal 0 (some 24) ?_ rfl (by kernel_rfl) (by kernel_rfl) (by kernel_rfl) rfl (fun _ _ _ h => h) (by rfl) (by assumption) ?_ ?_
    rotate_left
    · (intro w hSw; (try dsimp only at hSw); go_simp <;> with_reducible rfl)
    simp only [Act.put, List.setIfInBounds_toArray, List.set_cons_zero, List.set_cons_succ]
    refine takeVal 2 (some 26) ?_ rfl (by kernel_rfl) (by kernel_rfl) (by kernel_rfl) rfl (fun _ _ _ h => h) (by rfl) (by assumption) ?_ ?_
    rotate_left
    · (intro w hSw; (try dsimp only at hSw); go_simp <;> with_reducible rfl)
    simp only [Act.put, List.setIfInBounds_toArray, List.set_cons_zero, List.set_cons_succ]
    refine wpAnyH_ready (rs := [1, 5]) (by kernel_rfl) (by simp) ?_
    refine (AllReadyH.cons rfl (fun K hK => ?_) (AllReadyH.cons rfl (fun K hK => ?_) AllReadyH.nil))
    · skip
      go_simp
      refine (unhide TS _ (below_y (unhide B0) (unhide BB))).mono ?_
      rintro e we5 ⟨vP, LP, hLP, rfl, oP, hapP, hb⟩
      obtain ⟨aP, cP, rfl⟩ := g_shape oP.row
      have OP_ := hide oP
      have HLP := hide hLP
      clear oP hLP
      have A_ := hide ((unhide A).ups hb)
      clear A
      have A := A_
      clear A_
      have E_ := hide ((unhide E).ups hb)
      clear E
      have E := E_
      clear E_
      have sz6 := hide (hb.size)
      have BB_ := hide (below_y (unhide BB) hb)
      clear BB
      have BB := BB_
      clear BB_
      clear hb
      have OP := OP_
      clear OP_
      go_wp2_with fail
      refine hK.out _ _ (⟨(unhide A).cell 0 rfl, (unhide A).cell 1 rfl, (unhide E).cell 0 rfl, (unhide E).cell 1 rfl, (unhide E).cell 2 rfl, (unhide E).cell 3 rfl, (unhide E).cell 4 rfl, (unhide E).cell 5 rfl, (unhide E).cell 6 rfl⟩) (fun hHeld2 => ?_)
      clear hK K hHeld
      have hHeld := hHeld2; clear hHeld2
      try simp only [Act.put, List.setIfInBounds_toArray, List.set_cons_zero, List.set_cons_succ]
      refine wpAnyH_ready (rs := [3, 5]) (by kernel_rfl) (by simp) ?_
      refine (AllReadyH.cons rfl (fun K hK => ?_) (AllReadyH.cons rfl (fun K hK => ?_) AllReadyH.nil))
      · skip
        go_simp
        refine (unhide TB _ (below_y (unhide B0) (unhide BB))).mono ?_
        rintro e we6 ⟨mQ, tQ, rfl, oQ, hb⟩
        obtain ⟨amQ, cmQ, rfl⟩ := g_shape oQ.1
        obtain ⟨atQ, ctQ, rfl⟩ := g_shape oQ.2
        have OQ_ := hide oQ
        clear oQ
        have A_ := hide ((unhide A).ups hb)
        clear A
        have A := A_
        clear A_
        have E_ := hide ((unhide E).ups hb)
        clear E
        have E := E_
        clear E_
        have OP_ := hide ((unhide OP).up hb)
        clear OP
        have OP := OP_
        clear OP_
        have sz7 := hide (hb.size)
        have BB_ := hide (below_y (unhide BB) hb)
        clear BB
        have BB := BB_
        clear BB_
        clear hb
        have OQ := OQ_
        clear OQ_
        go_wp2_with fail
        refine hK.out _ _ (⟨(unhide A).cell 0 rfl, (unhide A).cell 1 rfl, (unhide E).cell 0 rfl, (unhide E).cell 1 rfl, (unhide E).cell 2 rfl, (unhide E).cell 3 rfl, (unhide E).cell 4 rfl, (unhide E).cell 5 rfl, (unhide E).cell 6 rfl⟩) (fun hHeld2 => ?_)
        clear hK K hHeld
        have hHeld := hHeld2; clear hHeld2
        try simp only [Act.put, List.setIfInBounds_toArray, List.set_cons_zero, List.set_cons_succ]
        refine wpAnyH_ready (rs := [4, 5]) (by kernel_rfl) (by simp) ?_
        refine (AllReadyH.cons rfl (fun K hK => ?_) (AllReadyH.cons rfl (fun K hK => ?_) AllReadyH.nil))
        · skip
          go_simp
          refine (unhide SJ _ _ _ _ _ _ ⟨LP, unhide HLP, unhide OP⟩ (unhide OQ)).mono ?_
          rintro e we7 ⟨vZ, rfl, ⟨LZ, hLZ, oZ⟩, hb⟩
          obtain ⟨aZ, cZ, rfl⟩ := g_shape oZ.row
          have OZ_ : Hid (OwnBs w4.heap.size _ _ LZ) := oZ.based (unhide BB).size
          have HLZ := hide hLZ
          clear oZ hLZ
          have A_ := hide ((unhide A).ups hb)
          clear A
          have A := A_
          clear A_
          have E_ := hide ((unhide E).ups hb)
          clear E
          have E := E_
          clear E_
          have OP_ := hide ((unhide OP).up hb)
          clear OP
          have OP := OP_
          clear OP_
          have OQ_ := hide ((unhide OQ).up hb)
          clear OQ
          have OQ := OQ_
          clear OQ_
          have sz8 := hide (hb.size)
          have BB_ := hide (below_y (unhide BB) hb)
          clear BB
          have BB := BB_
          clear BB_
          clear hb
          have OZ := OZ_
          clear OZ_
          go_wp2_with fail
          refine hK.out _ _ (⟨(unhide A).cell 0 rfl, (unhide A).cell 1 rfl, (unhide E).cell 0 rfl, (unhide E).cell 1 rfl, (unhide E).cell 2 rfl, (unhide E).cell 3 rfl, (unhide E).cell 4 rfl, (unhide E).cell 5 rfl, (unhide E).cell 6 rfl⟩) (fun hHeld2 => ?_)
          clear hK K hHeld
          have hHeld := hHeld2; clear hHeld2
          try simp only [Act.put, List.setIfInBounds_toArray, List.set_cons_zero, List.set_cons_succ]
          refine wpAnyH_ready (rs := [5]) (by kernel_rfl) (by simp) ?_
          refine (AllReadyH.cons rfl (fun K hK => ?_) AllReadyH.nil)
          go_simp
          obtain ⟨we8, hX⟩ : ∃ X, X = (we7.alloc (.cells ([.slice none 0 0, .int .i64 0] : List Value).toArray 33)) := ⟨_, rfl⟩
          rw [← hX]
          have Wx : HasObj we8 we7.heap.size 33 [.slice none 0 0, .int .i64 0] := by rw [hX]; exact HasObj.new _ _ _
          have hbn : Below we7.heap.size we7 we8 := by rw [hX]; exact (Below.refl we7.heap.size we7).alloc (Nat.le_refl _) _
          clear hX
          have neAW : w.heap.size ≠ we7.heap.size := Nat.ne_of_lt (unhide A).lt
          have neEW : w1.heap.size ≠ we7.heap.size := Nat.ne_of_lt (unhide E).lt
          have loW : w4.heap.size ≤ we7.heap.size := (unhide BB).size
          have A_ := hide ((unhide A).ups hbn)
          clear A
          have A := A_
          clear A_
          have E_ := hide ((unhide E).ups hbn)
          clear E
          have E := E_
          clear E_
          have OP_ := hide ((unhide OP).up hbn)
          clear OP
          have OP := OP_
          clear OP_
          have OQ_ := hide ((unhide OQ).up hbn)
          clear OQ
          have OQ := OQ_
          clear OQ_
          have OZ_ := hide ((unhide OZ).up hbn)
          clear OZ
          have OZ := OZ_
          clear OZ_
          have sz9 := hide (hbn.size)
          have BB_ := hide (below_y (unhide BB) hbn)
          clear BB
          have BB := BB_
          clear BB_
          clear hbn
          have W := hide Wx
          clear Wx
          refine hK.out _ _ (⟨(unhide A).cell 0 rfl, (unhide A).cell 1 rfl, (unhide E).cell 0 rfl, (unhide E).cell 1 rfl, (unhide E).cell 2 rfl, (unhide E).cell 3 rfl, (unhide E).cell 4 rfl, (unhide E).cell 5 rfl, (unhide E).cell 6 rfl⟩) (fun hHeld2 => ?_)
          clear hK K hHeld
          have hHeld := hHeld2; clear hHeld2
          try simp only [Act.put, List.setIfInBounds_toArray, List.set_cons_zero, List.set_cons_succ]
          have Wf0 := (unhide W).frozen 0
          have Wf1 := (unhide W).frozen 1
          have We0 := (unhide W).cell 0 rfl
          have We1 := (unhide W).cell 1 rfl
          have F_ := hide (fill2 (unhide W) (.slice aZ LZ.length cZ) (.int .i64 s.valid))
          refine wpAnyH_ready (rs := [6]) (by kernel_rfl) (by simp) ?_
          refine AllReadyH.cons rfl (fun K hK => ?_) AllReadyH.nil
          go_simp
          obtain ⟨we9, hU⟩ : ∃ U, U = ((we8.setCell ⟨we7.heap.size, 0, none⟩ (.slice aZ LZ.length cZ)).setCell ⟨we7.heap.size, 1, none⟩ (.int .i64 s.valid)) := ⟨_, rfl⟩
          have F := unhide F_
          rw [← hU] at F ⊢
          clear hU F_
          clear Wf0 Wf1 We0 We1
          have A_ := hide (F.other neAW (unhide A))
          have E_ := hide (F.other neEW (unhide E))
          have W_ := hide (F.obj)
          have OP_ : Hid (OwnBs w4.drew.heap.size we9 (.slice aP LP.length cP) (LP)) := ⟨F.row (by decide) (unhide OP).row, fun x hx => ⟨F.row (by decide) ((unhide OP).each x hx).1, F.row (by decide) ((unhide OP).each x hx).2⟩⟩
          have OQ_ : Hid (OwnBx we5.heap.size we9 (.slice amQ b.mails.length cmQ) (.slice atQ b.tombs.length ctQ) b) := ⟨F.row (by decide) (unhide OQ).1, F.row (by decide) (unhide OQ).2⟩
          have OZ_ : Hid (OwnBs w4.heap.size we9 (.slice aZ LZ.length cZ) (LZ)) := ⟨F.row (by decide) (unhide OZ).row, fun x hx => ⟨F.row (by decide) ((unhide OZ).each x hx).1, F.row (by decide) ((unhide OZ).each x hx).2⟩⟩
          have BB_ : Hid (Below w4.heap.size w4 we9) := F.below loW (unhide BB)
          have sz10 : Hid (we8.heap.size ≤ we9.heap.size) := by show _ ≤ _; rw [F.size]; exact Nat.le_refl _
          clear A
          have A := A_
          clear A_
          clear E
          have E := E_
          clear E_
          clear W
          have W := W_
          clear W_
          clear OP
          have OP := OP_
          clear OP_
          clear OQ
          have OQ := OQ_
          clear OQ_
          clear OZ
          have OZ := OZ_
          clear OZ_
          clear BB
          have BB := BB_
          clear BB_
          clear F
          refine hK.out _ _ (⟨(unhide A).cell 0 rfl, (unhide A).cell 1 rfl, (unhide E).cell 0 rfl, (unhide E).cell 1 rfl, (unhide E).cell 2 rfl, (unhide E).cell 3 rfl, (unhide E).cell 4 rfl, (unhide E).cell 5 rfl, (unhide E).cell 6 rfl⟩) (fun hHeld2 => ?_)
          clear hK K hHeld
          have hHeld := hHeld2; clear hHeld2
          try simp only [Act.put, List.setIfInBounds_toArray, List.set_cons_zero, List.set_cons_succ]
          refine wpAnyH_done (by kernel_rfl) ?_ _
          go_wp2
          go_meet
          case rel => exact ⟨_, _, _, _, rfl, unhide HLZ, unhide OZ, unhide W, loW, unhide BB⟩
        · skip
          go_simp
          obtain ⟨we7, hX⟩ : ∃ X, X = (we6.alloc (.cells ([.slice none 0 0, .int .i64 0] : List Value).toArray 33)) := ⟨_, rfl⟩
          rw [← hX]
          have Wx : HasObj we7 we6.heap.size 33 [.slice none 0 0, .int .i64 0] := by rw [hX]; exact HasObj.new _ _ _
          have hbn : Below we6.heap.size we6 we7 := by rw [hX]; exact (Below.refl we6.heap.size we6).alloc (Nat.le_refl _) _
          clear hX
          have neAW : w.heap.size ≠ we6.heap.size := Nat.ne_of_lt (unhide A).lt
          have neEW : w1.heap.size ≠ we6.heap.size := Nat.ne_of_lt (unhide E).lt
          have loW : w4.heap.size ≤ we6.heap.size := (unhide BB).size
          have A_ := hide ((unhide A).ups hbn)
          clear A
          have A := A_
          clear A_
          have E_ := hide ((unhide E).ups hbn)
          clear E
          have E := E_
          clear E_
          have OP_ := hide ((unhide OP).up hbn)
          clear OP
          have OP := OP_
          clear OP_
          have OQ_ := hide ((unhide OQ).up hbn)
          clear OQ
          have OQ := OQ_
          clear OQ_
          have sz8 := hide (hbn.size)
          have BB_ := hide (below_y (unhide BB) hbn)
          clear BB
          have BB := BB_
          clear BB_
          clear hbn
          have W := hide Wx
          clear Wx
          refine hK.out _ _ (⟨(unhide A).cell 0 rfl, (unhide A).cell 1 rfl, (unhide E).cell 0 rfl, (unhide E).cell 1 rfl, (unhide E).cell 2 rfl, (unhide E).cell 3 rfl, (unhide E).cell 4 rfl, (unhide E).cell 5 rfl, (unhide E).cell 6 rfl⟩) (fun hHeld2 => ?_)
          clear hK K hHeld
          have hHeld := hHeld2; clear hHeld2
          try simp only [Act.put, List.setIfInBounds_toArray, List.set_cons_zero, List.set_cons_succ]
          refine wpAnyH_ready (rs := [4]) (by kernel_rfl) (by simp) ?_
          refine (AllReadyH.cons rfl (fun K hK => ?_) AllReadyH.nil)
          go_simp
          refine (unhide SJ _ _ _ _ _ _ ⟨LP, unhide HLP, unhide OP⟩ (unhide OQ)).mono ?_
          rintro e we8 ⟨vZ, rfl, ⟨LZ, hLZ, oZ⟩, hb⟩
          obtain ⟨aZ, cZ, rfl⟩ := g_shape oZ.row
          have OZ_ : Hid (OwnBs w4.heap.size _ _ LZ) := oZ.based (unhide BB).size
          have HLZ := hide hLZ
          clear oZ hLZ
          have A_ := hide ((unhide A).ups hb)
          clear A
          have A := A_
          clear A_
          have E_ := hide ((unhide E).ups hb)
          clear E
          have E := E_
          clear E_
          have W_ := hide ((unhide W).ups hb)
          clear W
          have W := W_
          clear W_
          have OP_ := hide ((unhide OP).up hb)
          clear OP
          have OP := OP_
          clear OP_
          have OQ_ := hide ((unhide OQ).up hb)
          clear OQ
          have OQ := OQ_
          clear OQ_
          have sz9 := hide (hb.size)
          have BB_ := hide (below_y (unhide BB) hb)
          clear BB
          have BB := BB_
          clear BB_
          clear hb
          have OZ := OZ_
          clear OZ_
          go_wp2_with fail
          refine hK.out _ _ (⟨(unhide A).cell 0 rfl, (unhide A).cell 1 rfl, (unhide E).cell 0 rfl, (unhide E).cell 1 rfl, (unhide E).cell 2 rfl, (unhide E).cell 3 rfl, (unhide E).cell 4 rfl, (unhide E).cell 5 rfl, (unhide E).cell 6 rfl⟩) (fun hHeld2 => ?_)
          clear hK K hHeld
          have hHeld := hHeld2; clear hHeld2
          try simp only [Act.put, List.setIfInBounds_toArray, List.set_cons_zero, List.set_cons_succ]
          have Wf0 := (unhide W).frozen 0
          have Wf1 := (unhide W).frozen 1
          have We0 := (unhide W).cell 0 rfl
          have We1 := (unhide W).cell 1 rfl
          have F_ := hide (fill2 (unhide W) (.slice aZ LZ.length cZ) (.int .i64 s.valid))
          refine wpAnyH_ready (rs := [6]) (by kernel_rfl) (by simp) ?_
          refine AllReadyH.cons rfl (fun K hK => ?_) AllReadyH.nil
          go_simp
          obtain ⟨we9, hU⟩ : ∃ U, U = ((we8.setCell ⟨we6.heap.size, 0, none⟩ (.slice aZ LZ.length cZ)).setCell ⟨we6.heap.size, 1, none⟩ (.int .i64 s.valid)) := ⟨_, rfl⟩
          have F := unhide F_
          rw [← hU] at F ⊢
          clear hU F_
          clear Wf0 Wf1 We0 We1
          have A_ := hide (F.other neAW (unhide A))
          have E_ := hide (F.other neEW (unhide E))
          have W_ := hide (F.obj)
          have OP_ : Hid (OwnBs w4.drew.heap.size we9 (.slice aP LP.length cP) (LP)) := ⟨F.row (by decide) (unhide OP).row, fun x hx => ⟨F.row (by decide) ((unhide OP).each x hx).1, F.row (by decide) ((unhide OP).each x hx).2⟩⟩
          have OQ_ : Hid (OwnBx we5.heap.size we9 (.slice amQ b.mails.length cmQ) (.slice atQ b.tombs.length ctQ) b) := ⟨F.row (by decide) (unhide OQ).1, F.row (by decide) (unhide OQ).2⟩
          have OZ_ : Hid (OwnBs w4.heap.size we9 (.slice aZ LZ.length cZ) (LZ)) := ⟨F.row (by decide) (unhide OZ).row, fun x hx => ⟨F.row (by decide) ((unhide OZ).each x hx).1, F.row (by decide) ((unhide OZ).each x hx).2⟩⟩
          have BB_ : Hid (Below w4.heap.size w4 we9) := F.below loW (unhide BB)
          have sz10 : Hid (we8.heap.size ≤ we9.heap.size) := by show _ ≤ _; rw [F.size]; exact Nat.le_refl _
          clear A
          have A := A_
          clear A_
          clear E
          have E := E_
          clear E_
          clear W
          have W := W_
          clear W_
          clear OP
          have OP := OP_
          clear OP_
          clear OQ
          have OQ := OQ_
          clear OQ_
          clear OZ
          have OZ := OZ_
          clear OZ_
          clear BB
          have BB := BB_
          clear BB_
          clear F
          refine hK.out _ _ (⟨(unhide A).cell 0 rfl, (unhide A).cell 1 rfl, (unhide E).cell 0 rfl, (unhide E).cell 1 rfl, (unhide E).cell 2 rfl, (unhide E).cell 3 rfl, (unhide E).cell 4 rfl, (unhide E).cell 5 rfl, (unhide E).cell 6 rfl⟩) (fun hHeld2 => ?_)
          clear hK K hHeld
          have hHeld := hHeld2; clear hHeld2
          try simp only [Act.put, List.setIfInBounds_toArray, List.set_cons_zero, List.set_cons_succ]
          refine wpAnyH_done (by kernel_rfl) ?_ _
          go_wp2
          go_meet
          case rel => exact ⟨_, _, _, _, rfl, unhide HLZ, unhide OZ, unhide W, loW, unhide BB⟩
      · skip
        go_simp
        obtain ⟨we6, hX⟩ : ∃ X, X = (we5.alloc (.cells ([.slice none 0 0, .int .i64 0] : List Value).toArray 33)) := ⟨_, rfl⟩
        rw [← hX]
        have Wx : HasObj we6 we5.heap.size 33 [.slice none 0 0, .int .i64 0] := by rw [hX]; exact HasObj.new _ _ _
        have hbn : Below we5.heap.size we5 we6 := by rw [hX]; exact (Below.refl we5.heap.size we5).alloc (Nat.le_refl _) _
        clear hX
        have neAW : w.heap.size ≠ we5.heap.size := Nat.ne_of_lt (unhide A).lt
        have neEW : w1.heap.size ≠ we5.heap.size := Nat.ne_of_lt (unhide E).lt
        have loW : w4.heap.size ≤ we5.heap.size := (unhide BB).size
        have A_ := hide ((unhide A).ups hbn)
        clear A
        have A := A_
        clear A_
        have E_ := hide ((unhide E).ups hbn)
        clear E
        have E := E_
        clear E_
        have OP_ := hide ((unhide OP).up hbn)
        clear OP
        have OP := OP_
        clear OP_
        have sz7 := hide (hbn.size)
        have BB_ := hide (below_y (unhide BB) hbn)
        clear BB
        have BB := BB_
        clear BB_
        clear hbn
        have W := hide Wx
        clear Wx
        refine hK.out _ _ (⟨(unhide A).cell 0 rfl, (unhide A).cell 1 rfl, (unhide E).cell 0 rfl, (unhide E).cell 1 rfl, (unhide E).cell 2 rfl, (unhide E).cell 3 rfl, (unhide E).cell 4 rfl, (unhide E).cell 5 rfl, (unhide E).cell 6 rfl⟩) (fun hHeld2 => ?_)
        clear hK K hHeld
        have hHeld := hHeld2; clear hHeld2
        try simp only [Act.put, List.setIfInBounds_toArray, List.set_cons_zero, List.set_cons_succ]
        refine wpAnyH_ready (rs := [3]) (by kernel_rfl) (by simp) ?_
        refine (AllReadyH.cons rfl (fun K hK => ?_) AllReadyH.nil)
        go_simp
        refine (unhide TB _ (below_y (unhide B0) (unhide BB))).mono ?_
        rintro e we7 ⟨mQ, tQ, rfl, oQ, hb⟩
        obtain ⟨amQ, cmQ, rfl⟩ := g_shape oQ.1
        obtain ⟨atQ, ctQ, rfl⟩ := g_shape oQ.2
        have OQ_ := hide oQ
        clear oQ
        have A_ := hide ((unhide A).ups hb)
        clear A
        have A := A_
        clear A_
        have E_ := hide ((unhide E).ups hb)
        clear E
        have E := E_
        clear E_
        have W_ := hide ((unhide W).ups hb)
        clear W
        have W := W_
        clear W_
        have OP_ := hide ((unhide OP).up hb)
        clear OP
        have OP := OP_
        clear OP_
        have sz8 := hide (hb.size)
        have BB_ := hide (below_y (unhide BB) hb)
        clear BB
        have BB := BB_
        clear BB_
        clear hb
        have OQ := OQ_
        clear OQ_
        go_wp2_with fail
        refine hK.out _ _ (⟨(unhide A).cell 0 rfl, (unhide A).cell 1 rfl, (unhide E).cell 0 rfl, (unhide E).cell 1 rfl, (unhide E).cell 2 rfl, (unhide E).cell 3 rfl, (unhide E).cell 4 rfl, (unhide E).cell 5 rfl, (unhide E).cell 6 rfl⟩) (fun hHeld2 => ?_)
        clear hK K hHeld
        have hHeld := hHeld2; clear hHeld2
        try simp only [Act.put, List.setIfInBounds_toArray, List.set_cons_zero, List.set_cons_succ]
        refine wpAnyH_ready (rs := [4]) (by kernel_rfl) (by simp) ?_
        refine (AllReadyH.cons rfl (fun K hK => ?_) AllReadyH.nil)
        go_simp
        refine (unhide SJ _ _ _ _ _ _ ⟨LP, unhide HLP, unhide OP⟩ (unhide OQ)).mono ?_
        rintro e we8 ⟨vZ, rfl, ⟨LZ, hLZ, oZ⟩, hb⟩
        obtain ⟨aZ, cZ, rfl⟩ := g_shape oZ.row
        have OZ_ : Hid (OwnBs w4.heap.size _ _ LZ) := oZ.based (unhide BB).size
        have HLZ := hide hLZ
        clear oZ hLZ
        have A_ := hide ((unhide A).ups hb)
        clear A
        have A := A_
        clear A_
        have E_ := hide ((unhide E).ups hb)
        clear E
        have E := E_
        clear E_
        have W_ := hide ((unhide W).ups hb)
        clear W
        have W := W_
        clear W_
        have OP_ := hide ((unhide OP).up hb)
        clear OP
        have OP := OP_
        clear OP_
        have OQ_ := hide ((unhide OQ).up hb)
        clear OQ
        have OQ := OQ_
        clear OQ_
        have sz9 := hide (hb.size)
        have BB_ := hide (below_y (unhide BB) hb)
        clear BB
        have BB := BB_
        clear BB_
        clear hb
        have OZ := OZ_
        clear OZ_
        go_wp2_with fail
        refine hK.out _ _ (⟨(unhide A).cell 0 rfl, (unhide A).cell 1 rfl, (unhide E).cell 0 rfl, (unhide E).cell 1 rfl, (unhide E).cell 2 rfl, (unhide E).cell 3 rfl, (unhide E).cell 4 rfl, (unhide E).cell 5 rfl, (unhide E).cell 6 rfl⟩) (fun hHeld2 => ?_)
        clear hK K hHeld
        have hHeld := hHeld2; clear hHeld2
        try simp only [Act.put, List.setIfInBounds_toArray, List.set_cons_zero, List.set_cons_succ]
        have Wf0 := (unhide W).frozen 0
        have Wf1 := (unhide W).frozen 1
        have We0 := (unhide W).cell 0 rfl
        have We1 := (unhide W).cell 1 rfl
        have F_ := hide (fill2 (unhide W) (.slice aZ LZ.length cZ) (.int .i64 s.valid))
        refine wpAnyH_ready (rs := [6]) (by kernel_rfl) (by simp) ?_
        refine AllReadyH.cons rfl (fun K hK => ?_) AllReadyH.nil
        go_simp
        obtain ⟨we9, hU⟩ : ∃ U, U = ((we8.setCell ⟨we5.heap.size, 0, none⟩ (.slice aZ LZ.length cZ)).setCell ⟨we5.heap.size, 1, none⟩ (.int .i64 s.valid)) := ⟨_, rfl⟩
        have F := unhide F_
        rw [← hU] at F ⊢
        clear hU F_
        clear Wf0 Wf1 We0 We1
        have A_ := hide (F.other neAW (unhide A))
        have E_ := hide (F.other neEW (unhide E))
        have W_ := hide (F.obj)
        have OP_ : Hid (OwnBs w4.drew.heap.size we9 (.slice aP LP.length cP) (LP)) := ⟨F.row (by decide) (unhide OP).row, fun x hx => ⟨F.row (by decide) ((unhide OP).each x hx).1, F.row (by decide) ((unhide OP).each x hx).2⟩⟩
        have OQ_ : Hid (OwnBx we6.heap.size we9 (.slice amQ b.mails.length cmQ) (.slice atQ b.tombs.length ctQ) b) := ⟨F.row (by decide) (unhide OQ).1, F.row (by decide) (unhide OQ).2⟩
        have OZ_ : Hid (OwnBs w4.heap.size we9 (.slice aZ LZ.length cZ) (LZ)) := ⟨F.row (by decide) (unhide OZ).row, fun x hx => ⟨F.row (by decide) ((unhide OZ).each x hx).1, F.row (by decide) ((unhide OZ).each x hx).2⟩⟩
        have BB_ : Hid (Below w4.heap.size w4 we9) := F.below loW (unhide BB)
        have sz10 : Hid (we8.heap.size ≤ we9.heap.size) := by show _ ≤ _; rw [F.size]; exact Nat.le_refl _
        clear A
        have A := A_
        clear A_
        clear E
        have E := E_
        clear E_
        clear W
        have W := W_
        clear W_
        clear OP
        have OP := OP_
        clear OP_
        clear OQ
        have OQ := OQ_
        clear OQ_
        clear OZ
        have OZ := OZ_
        clear OZ_
        clear BB
        have BB := BB_
        clear BB_
        clear F
        refine hK.out _ _ (⟨(unhide A).cell 0 rfl, (unhide A).cell 1 rfl, (unhide E).cell 0 rfl, (unhide E).cell 1 rfl, (unhide E).cell 2 rfl, (unhide E).cell 3 rfl, (unhide E).cell 4 rfl, (unhide E).cell 5 rfl, (unhide E).cell 6 rfl⟩) (fun hHeld2 => ?_)
        clear hK K hHeld
        have hHeld := hHeld2; clear hHeld2
        try simp only [Act.put, List.setIfInBounds_toArray, List.set_cons_zero, List.set_cons_succ]
        refine wpAnyH_done (by kernel_rfl) ?_ _
        go_wp2
        go_meet
        case rel => exact ⟨_, _, _, _, rfl, unhide HLZ, unhide OZ, unhide W, loW, unhide BB⟩
    · skip
      go_simp
      obtain ⟨we5, hX⟩ : ∃ X, X = (w4.alloc (.cells ([.slice none 0 0, .int .i64 0] : List Value).toArray 33)).drew := ⟨_, rfl⟩
      rw [← hX]
      have Wx : HasObj we5 w4.heap.size 33 [.slice none 0 0, .int .i64 0] := by rw [hX]; exact (HasObj.new _ _ _).drew
      have hbn : Below w4.drew.heap.size w4.drew we5 := by rw [hX]; exact (Below.refl w4.drew.heap.size w4.drew).alloc (Nat.le_refl _) _
      clear hX
      have neAW : w.heap.size ≠ w4.heap.size := Nat.ne_of_lt (unhide A).lt
      have neEW : w1.heap.size ≠ w4.heap.size := Nat.ne_of_lt (unhide E).lt
      have loW : w4.heap.size ≤ w4.heap.size := (unhide BB).size
      have A_ := hide ((unhide A).ups hbn)
      clear A
      have A := A_
      clear A_
      have E_ := hide ((unhide E).ups hbn)
      clear E
      have E := E_
      clear E_
      have sz6 := hide (hbn.size)
      have BB_ := hide (below_y (unhide BB) hbn)
      clear BB
      have BB := BB_
      clear BB_
      clear hbn
      have W := hide Wx
      clear Wx
      refine hK.out _ _ (⟨(unhide A).cell 0 rfl, (unhide A).cell 1 rfl, (unhide E).cell 0 rfl, (unhide E).cell 1 rfl, (unhide E).cell 2 rfl, (unhide E).cell 3 rfl, (unhide E).cell 4 rfl, (unhide E).cell 5 rfl, (unhide E).cell 6 rfl⟩) (fun hHeld2 => ?_)
      clear hK K hHeld
      have hHeld := hHeld2; clear hHeld2
      try simp only [Act.put, List.setIfInBounds_toArray, List.set_cons_zero, List.set_cons_succ]
      refine wpAnyH_ready (rs := [1]) (by kernel_rfl) (by simp) ?_
      refine (AllReadyH.cons rfl (fun K hK => ?_) AllReadyH.nil)
      go_simp
      refine (unhide TS _ (below_y (unhide B0) (unhide BB))).mono ?_
      rintro e we6 ⟨vP, LP, hLP, rfl, oP, hapP, hb⟩
      obtain ⟨aP, cP, rfl⟩ := g_shape oP.row
      have OP_ := hide oP
      have HLP := hide hLP
      clear oP hLP
      have A_ := hide ((unhide A).ups hb)
      clear A
      have A := A_
      clear A_
      have E_ := hide ((unhide E).ups hb)
      clear E
      have E := E_
      clear E_
      have W_ := hide ((unhide W).ups hb)
      clear W
      have W := W_
      clear W_
      have sz7 := hide (hb.size)
      have BB_ := hide (below_y (unhide BB) hb)
      clear BB
      have BB := BB_
      clear BB_
      clear hb
      have OP := OP_
      clear OP_
      go_wp2_with fail
      refine hK.out _ _ (⟨(unhide A).cell 0 rfl, (unhide A).cell 1 rfl, (unhide E).cell 0 rfl, (unhide E).cell 1 rfl, (unhide E).cell 2 rfl, (unhide E).cell 3 rfl, (unhide E).cell 4 rfl, (unhide E).cell 5 rfl, (unhide E).cell 6 rfl⟩) (fun hHeld2 => ?_)
      clear hK K hHeld
      have hHeld := hHeld2; clear hHeld2
      try simp only [Act.put, List.setIfInBounds_toArray, List.set_cons_zero, List.set_cons_succ]
      refine wpAnyH_ready (rs := [3]) (by kernel_rfl) (by simp) ?_
      refine (AllReadyH.cons rfl (fun K hK => ?_) AllReadyH.nil)
      go_simp
      refine (unhide TB _ (below_y (unhide B0) (unhide BB))).mono ?_
      rintro e we7 ⟨mQ, tQ, rfl, oQ, hb⟩
      obtain ⟨amQ, cmQ, rfl⟩ := g_shape oQ.1
      obtain ⟨atQ, ctQ, rfl⟩ := g_shape oQ.2
      have OQ_ := hide oQ
      clear oQ
      have A_ := hide ((unhide A).ups hb)
      clear A
      have A := A_
      clear A_
      have E_ := hide ((unhide E).ups hb)
      clear E
      have E := E_
      clear E_
      have W_ := hide ((unhide W).ups hb)
      clear W
      have W := W_
      clear W_
      have OP_ := hide ((unhide OP).up hb)
      clear OP
      have OP := OP_
      clear OP_
      have sz8 := hide (hb.size)
      have BB_ := hide (below_y (unhide BB) hb)
      clear BB
      have BB := BB_
      clear BB_
      clear hb
      have OQ := OQ_
      clear OQ_
      go_wp2_with fail
      refine hK.out _ _ (⟨(unhide A).cell 0 rfl, (unhide A).cell 1 rfl, (unhide E).cell 0 rfl, (unhide E).cell 1 rfl, (unhide E).cell 2 rfl, (unhide E).cell 3 rfl, (unhide E).cell 4 rfl, (unhide E).cell 5 rfl, (unhide E).cell 6 rfl⟩) (fun hHeld2 => ?_)
      clear hK K hHeld
      have hHeld := hHeld2; clear hHeld2
      try simp only [Act.put, List.setIfInBounds_toArray, List.set_cons_zero, List.set_cons_succ]
      refine wpAnyH_ready (rs := [4]) (by kernel_rfl) (by simp) ?_
      refine (AllReadyH.cons rfl (fun K hK => ?_) AllReadyH.nil)
      go_simp
      refine (unhide SJ _ _ _ _ _ _ ⟨LP, unhide HLP, unhide OP⟩ (unhide OQ)).mono ?_
      rintro e we8 ⟨vZ, rfl, ⟨LZ, hLZ, oZ⟩, hb⟩
      obtain ⟨aZ, cZ, rfl⟩ := g_shape oZ.row
      have OZ_ : Hid (OwnBs w4.heap.size _ _ LZ) := oZ.based (unhide BB).size
      have HLZ := hide hLZ
      clear oZ hLZ
      have A_ := hide ((unhide A).ups hb)
      clear A
      have A := A_
      clear A_
      have E_ := hide ((unhide E).ups hb)
      clear E
      have E := E_
      clear E_
      have W_ := hide ((unhide W).ups hb)
      clear W
      have W := W_
      clear W_
      have OP_ := hide ((unhide OP).up hb)
      clear OP
      have OP := OP_
      clear OP_
      have OQ_ := hide ((unhide OQ).up hb)
      clear OQ
      have OQ := OQ_
      clear OQ_
      have sz9 := hide (hb.size)
      have BB_ := hide (below_y (unhide BB) hb)
      clear BB
      have BB := BB_
      clear BB_
      clear hb
      have OZ := OZ_
      clear OZ_
      go_wp2_with fail
      refine hK.out _ _ (⟨(unhide A).cell 0 rfl, (unhide A).cell 1 rfl, (unhide E).cell 0 rfl, (unhide E).cell 1 rfl, (unhide E).cell 2 rfl, (unhide E).cell 3 rfl, (unhide E).cell 4 rfl, (unhide E).cell 5 rfl, (unhide E).cell 6 rfl⟩) (fun hHeld2 => ?_)
      clear hK K hHeld
      have hHeld := hHeld2; clear hHeld2
      try simp only [Act.put, List.setIfInBounds_toArray, List.set_cons_zero, List.set_cons_succ]
      have Wf0 := (unhide W).frozen 0
      have Wf1 := (unhide W).frozen 1
      have We0 := (unhide W).cell 0 rfl
      have We1 := (unhide W).cell 1 rfl
      have F_ := hide (fill2 (unhide W) (.slice aZ LZ.length cZ) (.int .i64 s.valid))
      refine wpAnyH_ready (rs := [6]) (by kernel_rfl) (by simp) ?_
      refine AllReadyH.cons rfl (fun K hK => ?_) AllReadyH.nil
      go_simp
      obtain ⟨we9, hU⟩ : ∃ U, U = ((we8.setCell ⟨w4.heap.size, 0, none⟩ (.slice aZ LZ.length cZ)).setCell ⟨w4.heap.size, 1, none⟩ (.int .i64 s.valid)) := ⟨_, rfl⟩
      have F := unhide F_
      rw [← hU] at F ⊢
      clear hU F_
      clear Wf0 Wf1 We0 We1
      have A_ := hide (F.other neAW (unhide A))
      have E_ := hide (F.other neEW (unhide E))
      have W_ := hide (F.obj)
      have OP_ : Hid (OwnBs we5.heap.size we9 (.slice aP LP.length cP) (LP)) := ⟨F.row (by decide) (unhide OP).row, fun x hx => ⟨F.row (by decide) ((unhide OP).each x hx).1, F.row (by decide) ((unhide OP).each x hx).2⟩⟩
      have OQ_ : Hid (OwnBx we6.heap.size we9 (.slice amQ b.mails.length cmQ) (.slice atQ b.tombs.length ctQ) b) := ⟨F.row (by decide) (unhide OQ).1, F.row (by decide) (unhide OQ).2⟩
      have OZ_ : Hid (OwnBs w4.heap.size we9 (.slice aZ LZ.length cZ) (LZ)) := ⟨F.row (by decide) (unhide OZ).row, fun x hx => ⟨F.row (by decide) ((unhide OZ).each x hx).1, F.row (by decide) ((unhide OZ).each x hx).2⟩⟩
      have BB_ : Hid (Below w4.heap.size w4 we9) := F.below loW (unhide BB)
      have sz10 : Hid (we8.heap.size ≤ we9.heap.size) := by show _ ≤ _; rw [F.size]; exact Nat.le_refl _
      clear A
      have A := A_
      clear A_
      clear E
      have E := E_
      clear E_
      clear W
      have W := W_
      clear W_
      clear OP
      have OP := OP_
      clear OP_
      clear OQ
      have OQ := OQ_
      clear OQ_
      clear OZ
      have OZ := OZ_
      clear OZ_
      clear BB
      have BB := BB_
      clear BB_
      clear F
      refine hK.out _ _ (⟨(unhide A).cell 0 rfl, (unhide A).cell 1 rfl, (unhide E).cell 0 rfl, (unhide E).cell 1 rfl, (unhide E).cell 2 rfl, (unhide E).cell 3 rfl, (unhide E).cell 4 rfl, (unhide E).cell 5 rfl, (unhide E).cell 6 rfl⟩) (fun hHeld2 => ?_)
      clear hK K hHeld
      have hHeld := hHeld2; clear hHeld2
      try simp only [Act.put, List.setIfInBounds_toArray, List.set_cons_zero, List.set_cons_succ]
      refine wpAnyH_done (by kernel_rfl) ?_ _
      go_wp2
      go_meet
      case rel => exact ⟨_, _, _, _, rfl, unhide HLZ, unhide OZ, unhide W, loW, unhide BB⟩
  case rest =>
    obtain ⟨aW, cW, LW, bxW, rfl, hLW, oW, obW, hloW, hb⟩ := hcut
    obtain ⟨w5, rfl⟩ : ∃ x, x = wc := ⟨_, rfl⟩
    have neAW : w.heap.size ≠ bxW := Nat.ne_of_lt (Nat.lt_of_lt_of_le (unhide A).lt hloW)
    have neEW : w1.heap.size ≠ bxW := Nat.ne_of_lt (Nat.lt_of_lt_of_le (unhide E).lt hloW)
    have loW : w.heap.size ≤ bxW := Nat.le_trans (unhide BB).size hloW
    clear B0
    have A_ := hide ((unhide A).ups hb)
    clear A
    have A := A_
    clear A_
    have E_ := hide ((unhide E).ups hb)
    clear E
    have E := E_
    clear E_
    have sz5 := hide (hb.size)
    have BB_ := hide (below_y (unhide BB) hb)
    clear BB
    have BB := BB_
    clear BB_
    clear hb
    have W := hide obW
    clear obW
    have NW := hide (OwnBs.base oW)
    have OW := hide oW
    have HLW := hide hLW
    clear oW hLW
    have Ac0_5 := (unhide A).cell 0 rfl
    have Ac1_5 := (unhide A).cell 1 rfl
    go_wp2_with fail
    clear Ac0_3 Ac1_3 Ec0_4 Ec1_4 Ec2_4 Ec3_4 Ec4_4 Ec5_4 Ec6_4 Ac0_5 Ac1_5
    refine (unhide TS _ (unhide BB)).mono ?_
    rintro e w6 ⟨vX, LX, hLX, rfl, oX, hapX, hb⟩
    obtain ⟨aX, cX, rfl⟩ := g_shape oX.row
    have NX := hide (OwnBs.base oX)
    have OX_ := hide oX
    have HLX := hide hLX
    clear oX hLX
    have APX := hide hapX
    clear hapX
    have A_ := hide ((unhide A).ups hb)
    clear A
    have A := A_
    clear A_
    have E_ := hide ((unhide E).ups hb)
    clear E
    have E := E_
    clear E_
    have W_ := hide ((unhide W).ups hb)
    clear W
    have W := W_
    clear W_
    have OW_ := hide ((unhide OW).up hb)
    clear OW
    have OW := OW_
    clear OW_
    have sz6 := hide (hb.size)
    have BB_ := hide (below_y (unhide BB) hb)
    clear BB
    have BB := BB_
    clear BB_
    clear hb
    have OX := OX_
    clear OX_
    obtain ⟨w7, hX⟩ : ∃ X, X = w6.alloc (.cells ([.slice aX LX.length cX, .int .i64 s.valid] : List Value).toArray 33) := ⟨_, rfl⟩
    have Xx : HasObj w7 w6.heap.size 33 [.slice aX LX.length cX, .int .i64 s.valid] := by rw [hX]; exact HasObj.new _ _ _
    have hbn : Below w6.heap.size w6 w7 := by rw [hX]; exact (Below.refl _ _).alloc (Nat.le_refl _) _
    have neAX : w.heap.size ≠ w6.heap.size := Nat.ne_of_lt (unhide A).lt
    have neEX : w1.heap.size ≠ w6.heap.size := Nat.ne_of_lt (unhide E).lt
    have neWX : bxW ≠ w6.heap.size := Nat.ne_of_lt (unhide W).lt
    have loX : w.heap.size ≤ w6.heap.size := (unhide BB).size
    have EX := hX.symm
    clear hX
    have A_ := hide ((unhide A).ups hbn)
    clear A
    have A := A_
    clear A_
    have E_ := hide ((unhide E).ups hbn)
    clear E
    have E := E_
    clear E_
    have W_ := hide ((unhide W).ups hbn)
    clear W
    have W := W_
    clear W_
    have OW_ := hide ((unhide OW).up hbn)
    clear OW
    have OW := OW_
    clear OW_
    have OX_ := hide ((unhide OX).up hbn)
    clear OX
    have OX := OX_
    clear OX_
    have sz7 := hide (hbn.size)
    have BB_ := hide (below_y (unhide BB) hbn)
    clear BB
    have BB := BB_
    clear BB_
    clear hbn
    have X := hide Xx
    clear Xx
    have Ec0_6 := (unhide E).cell 0 rfl
    have Ec1_6 := (unhide E).cell 1 rfl
    have Ec2_6 := (unhide E).cell 2 rfl
    have Ec3_6 := (unhide E).cell 3 rfl
    have Ec4_6 := (unhide E).cell 4 rfl
    have Ec5_6 := (unhide E).cell 5 rfl
    have Ec6_6 := (unhide E).cell 6 rfl
    go_wp2_with fail
    clear Ec0_6 Ec1_6 Ec2_6 Ec3_6 Ec4_6 Ec5_6 Ec6_6 EX
    refine (unhide TB _ (unhide BB)).mono ?_
    rintro e w8 ⟨mY, tY, rfl, oY, hb⟩
    obtain ⟨amY, cmY, rfl⟩ := g_shape oY.1
    obtain ⟨atY, ctY, rfl⟩ := g_shape oY.2
    have NY := hide (OwnBx.base oY)
    have A_ := hide ((unhide A).ups hb)
    clear A
    have A := A_
    clear A_
    have E_ := hide ((unhide E).ups hb)
    clear E
    have E := E_
    clear E_
    have W_ := hide ((unhide W).ups hb)
    clear W
    have W := W_
    clear W_
    have X_ := hide ((unhide X).ups hb)
    clear X
    have X := X_
    clear X_
    have OW_ := hide ((unhide OW).up hb)
    clear OW
    have OW := OW_
    clear OW_
    have OX_ := hide ((unhide OX).up hb)
    clear OX
    have OX := OX_
    clear OX_
    have sz8 := hide (hb.size)
    have BB_ := hide (below_y (unhide BB) hb)
    clear BB
    have BB := BB_
    clear BB_
    clear hb
    have OY := hide oY
    clear oY
    obtain ⟨w9, hY⟩ : ∃ X, X = w8.alloc (.cells ([.string b.name, .int .i64 b.valid, .int .i64 b.next, .int .i64 b.mod, .slice amY b.mails.length cmY, .slice atY b.tombs.length ctY, .int .i64 b.hor] : List Value).toArray 39) := ⟨_, rfl⟩
    have Yx : HasObj w9 w8.heap.size 39 [.string b.name, .int .i64 b.valid, .int .i64 b.next, .int .i64 b.mod, .slice amY b.mails.length cmY, .slice atY b.tombs.length ctY, .int .i64 b.hor] := by rw [hY]; exact HasObj.new _ _ _
    have hbn : Below w8.heap.size w8 w9 := by rw [hY]; exact (Below.refl _ _).alloc (Nat.le_refl _) _
    have neAY : w.heap.size ≠ w8.heap.size := Nat.ne_of_lt (unhide A).lt
    have neEY : w1.heap.size ≠ w8.heap.size := Nat.ne_of_lt (unhide E).lt
    have neWY : bxW ≠ w8.heap.size := Nat.ne_of_lt (unhide W).lt
    have neXY : w6.heap.size ≠ w8.heap.size := Nat.ne_of_lt (unhide X).lt
    have loY : w.heap.size ≤ w8.heap.size := (unhide BB).size
    have EY := hY.symm
    clear hY
    have A_ := hide ((unhide A).ups hbn)
    clear A
    have A := A_
    clear A_
    have E_ := hide ((unhide E).ups hbn)
    clear E
    have E := E_
    clear E_
    have W_ := hide ((unhide W).ups hbn)
    clear W
    have W := W_
    clear W_
    have X_ := hide ((unhide X).ups hbn)
    clear X
    have X := X_
    clear X_
    have OW_ := hide ((unhide OW).up hbn)
    clear OW
    have OW := OW_
    clear OW_
    have OX_ := hide ((unhide OX).up hbn)
    clear OX
    have OX := OX_
    clear OX_
    have OY_ := hide ((unhide OY).up hbn)
    clear OY
    have OY := OY_
    clear OY_
    have sz9 := hide (hbn.size)
    have BB_ := hide (below_y (unhide BB) hbn)
    clear BB
    have BB := BB_
    clear BB_
    clear hbn
    have Y := hide Yx
    clear Yx
    have LTY := hide (unhide Y).lt
    have Xc0_7 := (unhide X).cell 0 rfl
    have Xc1_7 := (unhide X).cell 1 rfl
    have Yc0_8 := (unhide Y).cell 0 rfl
    have Yc1_8 := (unhide Y).cell 1 rfl
    have Yc2_8 := (unhide Y).cell 2 rfl
    have Yc3_8 := (unhide Y).cell 3 rfl
    have Yc4_8 := (unhide Y).cell 4 rfl
    have Yc5_8 := (unhide Y).cell 5 rfl
    have Yc6_8 := (unhide Y).cell 6 rfl
    go_wp2_with fail
    clear Xc0_7 Xc1_7 Yc0_8 Yc1_8 Yc2_8 Yc3_8 Yc4_8 Yc5_8 Yc6_8 EY
    refine (unhide CJ _ _ _ _ _ _ ⟨LX, unhide HLX, unhide OX⟩ (unhide OY) (unhide BB)).mono ?_
    rintro e w10 ⟨vG, rfl, ⟨LG, hLG, oG, hapG⟩, hb⟩
    obtain ⟨aG, cG, rfl⟩ := g_shape oG.row
    have NG := hide (OwnBs.base oG)
    have OG_ := hide oG
    have HLG := hide hLG
    clear oG hLG
    have APG := hide hapG
    clear hapG
    have A_ := hide ((unhide A).ups hb)
    clear A
    have A := A_
    clear A_
    have E_ := hide ((unhide E).ups hb)
    clear E
    have E := E_
    clear E_
    have W_ := hide ((unhide W).ups hb)
    clear W
    have W := W_
    clear W_
    have X_ := hide ((unhide X).ups hb)
    clear X
    have X := X_
    clear X_
    have Y_ := hide ((unhide Y).ups hb)
    clear Y
    have Y := Y_
    clear Y_
    have OW_ := hide ((unhide OW).up hb)
    clear OW
    have OW := OW_
    clear OW_
    have OX_ := hide ((unhide OX).up hb)
    clear OX
    have OX := OX_
    clear OX_
    have OY_ := hide ((unhide OY).up hb)
    clear OY
    have OY := OY_
    clear OY_
    have sz10 := hide (hb.size)
    have BB_ := hide (below_y (unhide BB) hb)
    clear BB
    have BB := BB_
    clear BB_
    clear hb
    have OG := OG_
    clear OG_
    obtain ⟨w11, hG⟩ : ∃ X, X = w10.alloc (.cells ([.slice aG LG.length cG, .int .i64 s.valid] : List Value).toArray 33) := ⟨_, rfl⟩
    have Gx : HasObj w11 w10.heap.size 33 [.slice aG LG.length cG, .int .i64 s.valid] := by rw [hG]; exact HasObj.new _ _ _
    have hbn : Below w10.heap.size w10 w11 := by rw [hG]; exact (Below.refl _ _).alloc (Nat.le_refl _) _
    have neAG : w.heap.size ≠ w10.heap.size := Nat.ne_of_lt (unhide A).lt
    have neEG : w1.heap.size ≠ w10.heap.size := Nat.ne_of_lt (unhide E).lt
    have neWG : bxW ≠ w10.heap.size := Nat.ne_of_lt (unhide W).lt
    have neXG : w6.heap.size ≠ w10.heap.size := Nat.ne_of_lt (unhide X).lt
    have neYG : w8.heap.size ≠ w10.heap.size := Nat.ne_of_lt (unhide Y).lt
    have loG : w.heap.size ≤ w10.heap.size := (unhide BB).size
    have EG := hG.symm
    clear hG
    have A_ := hide ((unhide A).ups hbn)
    clear A
    have A := A_
    clear A_
    have E_ := hide ((unhide E).ups hbn)
    clear E
    have E := E_
    clear E_
    have W_ := hide ((unhide W).ups hbn)
    clear W
    have W := W_
    clear W_
    have X_ := hide ((unhide X).ups hbn)
    clear X
    have X := X_
    clear X_
    have Y_ := hide ((unhide Y).ups hbn)
    clear Y
    have Y := Y_
    clear Y_
    have OW_ := hide ((unhide OW).up hbn)
    clear OW
    have OW := OW_
    clear OW_
    have OX_ := hide ((unhide OX).up hbn)
    clear OX
    have OX := OX_
    clear OX_
    have OY_ := hide ((unhide OY).up hbn)
    clear OY
    have OY := OY_
    clear OY_
    have OG_ := hide ((unhide OG).up hbn)
    clear OG
    have OG := OG_
    clear OG_
    have sz11 := hide (hbn.size)
    have BB_ := hide (below_y (unhide BB) hbn)
    clear BB
    have BB := BB_
    clear BB_
    clear hbn
    have G := hide Gx
    clear Gx
    have Gc0_9 := (unhide G).cell 0 rfl
    have Gc1_9 := (unhide G).cell 1 rfl
    have Wc0_10 := (unhide W).cell 0 rfl
    have Wc1_10 := (unhide W).cell 1 rfl
    go_wp2_with fail
    clear Gc0_9 Gc1_9 Wc0_10 Wc1_10 EG
    refine (eqStore_same ⟨z, s.valid⟩ LG LW _ _ _ _ _ ((unhide SA)).len ((unhide SA)).each (unhide HLG) (unhide HLW) (unhide OG) (unhide OW)).mono ?_
    rintro e w12 ⟨rfl, hb⟩
    have A_ := hide ((unhide A).ups hb)
    clear A
    have A := A_
    clear A_
    have E_ := hide ((unhide E).ups hb)
    clear E
    have E := E_
    clear E_
    have W_ := hide ((unhide W).ups hb)
    clear W
    have W := W_
    clear W_
    have X_ := hide ((unhide X).ups hb)
    clear X
    have X := X_
    clear X_
    have Y_ := hide ((unhide Y).ups hb)
    clear Y
    have Y := Y_
    clear Y_
    have G_ := hide ((unhide G).ups hb)
    clear G
    have G := G_
    clear G_
    have OW_ := hide ((unhide OW).up hb)
    clear OW
    have OW := OW_
    clear OW_
    have OX_ := hide ((unhide OX).up hb)
    clear OX
    have OX := OX_
    clear OX_
    have OY_ := hide ((unhide OY).up hb)
    clear OY
    have OY := OY_
    clear OY_
    have OG_ := hide ((unhide OG).up hb)
    clear OG
    have OG := OG_
    clear OG_
    have sz12 := hide (hb.size)
    have BB_ := hide (below_y (unhide BB) hb)
    clear BB
    have BB := BB_
    clear BB_
    clear hb
    have Xc0_11 := (unhide X).cell 0 rfl
    have Xc1_11 := (unhide X).cell 1 rfl
    have Ac0_12 := (unhide A).cell 0 rfl
    have Ac1_12 := (unhide A).cell 1 rfl
    go_wp2
    clear Xc0_11 Xc1_11 Ac0_12 Ac1_12
    refine wp_region_held_drew (S := fun w' => w'.cell? ⟨w6.heap.size, 0, none⟩ = some (.slice aX LX.length cX) ∧ w'.cell? ⟨w6.heap.size, 1, none⟩ = some (.int .i64 s.valid) ∧ w'.cell? ⟨w.heap.size, 0, none⟩ = some (.slice a0 s.boxes.length c0) ∧ w'.cell? ⟨w.heap.size, 1, none⟩ = some (.int .i64 s.valid)) (by kernel_rfl) (⟨(unhide X).cell 0 rfl, (unhide X).cell 1 rfl, (unhide A).cell 0 rfl, (unhide A).cell 1 rfl⟩) (fun hHeld => ?_)
    have A_ := hide ((unhide A).drew)
    clear A
    have A := A_
    clear A_
    have E_ := hide ((unhide E).drew)
    clear E
    have E := E_
    clear E_
    have W_ := hide ((unhide W).drew)
    clear W
    have W := W_
    clear W_
    have X_ := hide ((unhide X).drew)
    clear X
    have X := X_
    clear X_
    have Y_ := hide ((unhide Y).drew)
    clear Y
    have Y := Y_
    clear Y_
    have G_ := hide ((unhide G).drew)
    clear G
    have G := G_
    clear G_
    have OW_ := hide ((unhide OW).drew)
    clear OW
    have OW := OW_
    clear OW_
    have OX_ := hide ((unhide OX).drew)
    clear OX
    have OX := OX_
    clear OX_
    have OY_ := hide ((unhide OY).drew)
    clear OY
    have OY := OY_
    clear OY_
    have OG_ := hide ((unhide OG).drew)
    clear OG
    have OG := OG_
    clear OG_
    have BB_ := hide ((unhide BB).drew)
    clear BB
    have BB := BB_
    clear BB_
    have sz13 : Hid (w12.heap.size ≤ w12.drew.heap.size) := Nat.le_refl _
    refine takeVal 0 (some 40) ?_ rfl (by kernel_rfl) (by kernel_rfl) (by kernel_rfl) rfl (fun _ _ _ h => h) (by rfl) (by assumption) ?_ ?_
    rotate_left
    · (intro w hSw; (try dsimp only at hSw); go_simp <;> with_reducible rfl)
    simp only [Act.put, List.setIfInBounds_toArray, List.set_cons_zero, List.set_cons_succ]
    refine takeVal 1 (some 41) ?_ rfl (by kernel_rfl) (by kernel_rfl) (by kernel_rfl) rfl (fun _ _ _ h => h) (by rfl) (by assumption) ?_ ?_
    rotate_left
    · (intro w hSw; (try dsimp only at hSw); go_simp <;> with_reducible rfl)
    simp only [Act.put, List.setIfInBounds_toArray, List.set_cons_zero, List.set_cons_succ]
    refine wpAnyH_ready (rs := [2]) (by kernel_rfl) (by simp) ?_
    refine AllReadyH.cons rfl (fun K hK => ?_) AllReadyH.nil
    go_simp
    refine (unhide TS _ (unhide BB)).mono ?_
    rintro e w13 ⟨vC, LC, hLC, rfl, oC, hapC, hb⟩
    obtain ⟨aC, cC, rfl⟩ := g_shape oC.row
    have NC := hide (OwnBs.base oC)
    have OC_ := hide oC
    have HLC := hide hLC
    clear oC hLC
    have APC := hide hapC
    clear hapC
    have A_ := hide ((unhide A).ups hb)
    clear A
    have A := A_
    clear A_
    have E_ := hide ((unhide E).ups hb)
    clear E
    have E := E_
    clear E_
    have W_ := hide ((unhide W).ups hb)
    clear W
    have W := W_
    clear W_
    have X_ := hide ((unhide X).ups hb)
    clear X
    have X := X_
    clear X_
    have Y_ := hide ((unhide Y).ups hb)
    clear Y
    have Y := Y_
    clear Y_
    have G_ := hide ((unhide G).ups hb)
    clear G
    have G := G_
    clear G_
    have OW_ := hide ((unhide OW).up hb)
    clear OW
    have OW := OW_
    clear OW_
    have OX_ := hide ((unhide OX).up hb)
    clear OX
    have OX := OX_
    clear OX_
    have OY_ := hide ((unhide OY).up hb)
    clear OY
    have OY := OY_
    clear OY_
    have OG_ := hide ((unhide OG).up hb)
    clear OG
    have OG := OG_
    clear OG_
    have sz14 := hide (hb.size)
    have BB_ := hide (below_y (unhide BB) hb)
    clear BB
    have BB := BB_
    clear BB_
    clear hb
    have OC := OC_
    clear OC_
    go_wp2_with fail
    refine hK.out _ _ (⟨(unhide X).cell 0 rfl, (unhide X).cell 1 rfl, (unhide A).cell 0 rfl, (unhide A).cell 1 rfl⟩) (fun hHeld2 => ?_)
    clear hK K hHeld
    have hHeld := hHeld2; clear hHeld2
    try simp only [Act.put, List.setIfInBounds_toArray, List.set_cons_zero, List.set_cons_succ]
    refine wpAnyH_ready (rs := [3]) (by kernel_rfl) (by simp) ?_
    refine AllReadyH.cons rfl (fun K hK => ?_) AllReadyH.nil
    go_simp
    refine (eqStore_same s LX LC _ _ _ _ _ (unhide SM).a.len (unhide SM).a.each (unhide HLX) (unhide HLC) (unhide OX) (unhide OC)).mono ?_
    rintro e w14 ⟨rfl, hb⟩
    have A_ := hide ((unhide A).ups hb)
    clear A
    have A := A_
    clear A_
    have E_ := hide ((unhide E).ups hb)
    clear E
    have E := E_
    clear E_
    have W_ := hide ((unhide W).ups hb)
    clear W
    have W := W_
    clear W_
    have X_ := hide ((unhide X).ups hb)
    clear X
    have X := X_
    clear X_
    have Y_ := hide ((unhide Y).ups hb)
    clear Y
    have Y := Y_
    clear Y_
    have G_ := hide ((unhide G).ups hb)
    clear G
    have G := G_
    clear G_
    have OW_ := hide ((unhide OW).up hb)
    clear OW
    have OW := OW_
    clear OW_
    have OX_ := hide ((unhide OX).up hb)
    clear OX
    have OX := OX_
    clear OX_
    have OY_ := hide ((unhide OY).up hb)
    clear OY
    have OY := OY_
    clear OY_
    have OG_ := hide ((unhide OG).up hb)
    clear OG
    have OG := OG_
    clear OG_
    have OC_ := hide ((unhide OC).up hb)
    clear OC
    have OC := OC_
    clear OC_
    have sz15 := hide (hb.size)
    have BB_ := hide (below_y (unhide BB) hb)
    clear BB
    have BB := BB_
    clear BB_
    clear hb
    go_wp2_with fail
    refine hK.out _ _ (⟨(unhide X).cell 0 rfl, (unhide X).cell 1 rfl, (unhide A).cell 0 rfl, (unhide A).cell 1 rfl⟩) (fun hHeld2 => ?_)
    clear hK K hHeld
    have hHeld := hHeld2; clear hHeld2
    try simp only [Act.put, List.setIfInBounds_toArray, List.set_cons_zero, List.set_cons_succ]
    refine takeVal 4 (some 44) ?_ rfl (by kernel_rfl) (by kernel_rfl) (by kernel_rfl) rfl (fun _ _ _ h => h) (by rfl) (by assumption) ?_ ?_
    rotate_left
    · (intro w hSw; (try dsimp only at hSw); go_simp <;> with_reducible rfl)
    simp only [Act.put, List.setIfInBounds_toArray, List.set_cons_zero, List.set_cons_succ]
    refine wpAnyH_done (by kernel_rfl) ?_ _
    clear OC
    clear HLC APC NC
    have Yc0_13 := (unhide Y).cell 0 rfl
    have Yc1_13 := (unhide Y).cell 1 rfl
    have Yc2_13 := (unhide Y).cell 2 rfl
    have Yc3_13 := (unhide Y).cell 3 rfl
    have Yc4_13 := (unhide Y).cell 4 rfl
    have Yc5_13 := (unhide Y).cell 5 rfl
    have Yc6_13 := (unhide Y).cell 6 rfl
    have Ec0_14 := (unhide E).cell 0 rfl
    have Ec1_14 := (unhide E).cell 1 rfl
    have Ec2_14 := (unhide E).cell 2 rfl
    have Ec3_14 := (unhide E).cell 3 rfl
    have Ec4_14 := (unhide E).cell 4 rfl
    have Ec5_14 := (unhide E).cell 5 rfl
    have Ec6_14 := (unhide E).cell 6 rfl
    go_wp2
    clear Yc0_13 Yc1_13 Yc2_13 Yc3_13 Yc4_13 Yc5_13 Yc6_13 Ec0_14 Ec1_14 Ec2_14 Ec3_14 Ec4_14 Ec5_14 Ec6_14
    refine wp_region_held_drew (S := fun w' => w'.cell? ⟨w8.heap.size, 0, none⟩ = some (.string b.name) ∧ w'.cell? ⟨w8.heap.size, 1, none⟩ = some (.int .i64 b.valid) ∧ w'.cell? ⟨w8.heap.size, 2, none⟩ = some (.int .i64 b.next) ∧ w'.cell? ⟨w8.heap.size, 3, none⟩ = some (.int .i64 b.mod) ∧ w'.cell? ⟨w8.heap.size, 4, none⟩ = some (.slice amY b.mails.length cmY) ∧ w'.cell? ⟨w8.heap.size, 5, none⟩ = some (.slice atY b.tombs.length ctY) ∧ w'.cell? ⟨w8.heap.size, 6, none⟩ = some (.int .i64 b.hor) ∧ w'.cell? ⟨w1.heap.size, 0, none⟩ = some (.string b.name) ∧ w'.cell? ⟨w1.heap.size, 1, none⟩ = some (.int .i64 b.valid) ∧ w'.cell? ⟨w1.heap.size, 2, none⟩ = some (.int .i64 b.next) ∧ w'.cell? ⟨w1.heap.size, 3, none⟩ = some (.int .i64 b.mod) ∧ w'.cell? ⟨w1.heap.size, 4, none⟩ = some (.slice a1 b.mails.length c1) ∧ w'.cell? ⟨w1.heap.size, 5, none⟩ = some (.slice a2 b.tombs.length c2) ∧ w'.cell? ⟨w1.heap.size, 6, none⟩ = some (.int .i64 b.hor)) (by kernel_rfl) (⟨(unhide Y).cell 0 rfl, (unhide Y).cell 1 rfl, (unhide Y).cell 2 rfl, (unhide Y).cell 3 rfl, (unhide Y).cell 4 rfl, (unhide Y).cell 5 rfl, (unhide Y).cell 6 rfl, (unhide E).cell 0 rfl, (unhide E).cell 1 rfl, (unhide E).cell 2 rfl, (unhide E).cell 3 rfl, (unhide E).cell 4 rfl, (unhide E).cell 5 rfl, (unhide E).cell 6 rfl⟩) (fun hHeld => ?_)
    have A_ := hide ((unhide A).drew)
    clear A
    have A := A_
    clear A_
    have E_ := hide ((unhide E).drew)
    clear E
    have E := E_
    clear E_
    have W_ := hide ((unhide W).drew)
    clear W
    have W := W_
    clear W_
    have X_ := hide ((unhide X).drew)
    clear X
    have X := X_
    clear X_
    have Y_ := hide ((unhide Y).drew)
    clear Y
    have Y := Y_
    clear Y_
    have G_ := hide ((unhide G).drew)
    clear G
    have G := G_
    clear G_
    have OW_ := hide ((unhide OW).drew)
    clear OW
    have OW := OW_
    clear OW_
    have OX_ := hide ((unhide OX).drew)
    clear OX
    have OX := OX_
    clear OX_
    have OY_ := hide ((unhide OY).drew)
    clear OY
    have OY := OY_
    clear OY_
    have OG_ := hide ((unhide OG).drew)
    clear OG
    have OG := OG_
    clear OG_
    have BB_ := hide ((unhide BB).drew)
    clear BB
    have BB := BB_
    clear BB_
    have sz16 : Hid (w14.heap.size ≤ w14.drew.heap.size) := Nat.le_refl _
    refine takeVal 0 (some 45) ?_ rfl (by kernel_rfl) (by kernel_rfl) (by kernel_rfl) rfl (fun _ _ _ h => h) (by rfl) (by assumption) ?_ ?_
    rotate_left
    · (intro w hSw; (try dsimp only at hSw); go_simp <;> with_reducible rfl)
    simp only [Act.put, List.setIfInBounds_toArray, List.set_cons_zero, List.set_cons_succ]
    refine takeVal 1 (some 46) ?_ rfl (by kernel_rfl) (by kernel_rfl) (by kernel_rfl) rfl (fun _ _ _ h => h) (by rfl) (by assumption) ?_ ?_
    rotate_left
    · (intro w hSw; (try dsimp only at hSw); go_simp <;> with_reducible rfl)
    simp only [Act.put, List.setIfInBounds_toArray, List.set_cons_zero, List.set_cons_succ]
    refine wpAnyH_ready (rs := [2]) (by kernel_rfl) (by simp) ?_
    refine AllReadyH.cons rfl (fun K hK => ?_) AllReadyH.nil
    go_simp
    refine (unhide TB _ (unhide BB)).mono ?_
    rintro e w15 ⟨mD, tD, rfl, oD, hb⟩
    obtain ⟨amD, cmD, rfl⟩ := g_shape oD.1
    obtain ⟨atD, ctD, rfl⟩ := g_shape oD.2
    have OD_ := hide oD
    clear oD
    have A_ := hide ((unhide A).ups hb)
    clear A
    have A := A_
    clear A_
    have E_ := hide ((unhide E).ups hb)
    clear E
    have E := E_
    clear E_
    have W_ := hide ((unhide W).ups hb)
    clear W
    have W := W_
    clear W_
    have X_ := hide ((unhide X).ups hb)
    clear X
    have X := X_
    clear X_
    have Y_ := hide ((unhide Y).ups hb)
    clear Y
    have Y := Y_
    clear Y_
    have G_ := hide ((unhide G).ups hb)
    clear G
    have G := G_
    clear G_
    have OW_ := hide ((unhide OW).up hb)
    clear OW
    have OW := OW_
    clear OW_
    have OX_ := hide ((unhide OX).up hb)
    clear OX
    have OX := OX_
    clear OX_
    have OY_ := hide ((unhide OY).up hb)
    clear OY
    have OY := OY_
    clear OY_
    have OG_ := hide ((unhide OG).up hb)
    clear OG
    have OG := OG_
    clear OG_
    have sz17 := hide (hb.size)
    have BB_ := hide (below_y (unhide BB) hb)
    clear BB
    have BB := BB_
    clear BB_
    clear hb
    have OD := OD_
    clear OD_
    go_wp2_with fail
    refine hK.out _ _ (⟨(unhide Y).cell 0 rfl, (unhide Y).cell 1 rfl, (unhide Y).cell 2 rfl, (unhide Y).cell 3 rfl, (unhide Y).cell 4 rfl, (unhide Y).cell 5 rfl, (unhide Y).cell 6 rfl, (unhide E).cell 0 rfl, (unhide E).cell 1 rfl, (unhide E).cell 2 rfl, (unhide E).cell 3 rfl, (unhide E).cell 4 rfl, (unhide E).cell 5 rfl, (unhide E).cell 6 rfl⟩) (fun hHeld2 => ?_)
    clear hK K hHeld
    have hHeld := hHeld2; clear hHeld2
    try simp only [Act.put, List.setIfInBounds_toArray, List.set_cons_zero, List.set_cons_succ]
    refine wpAnyH_ready (rs := [3]) (by kernel_rfl) (by simp) ?_
    refine AllReadyH.cons rfl (fun K hK => ?_) AllReadyH.nil
    go_simp
    refine (eqBox_same b _ _ _ _ _ _ _ (unhide BM).2.1.1 (unhide BM).2.2 (unhide OY) (unhide OD)).mono ?_
    rintro e w16 ⟨rfl, hb⟩
    have A_ := hide ((unhide A).ups hb)
    clear A
    have A := A_
    clear A_
    have E_ := hide ((unhide E).ups hb)
    clear E
    have E := E_
    clear E_
    have W_ := hide ((unhide W).ups hb)
    clear W
    have W := W_
    clear W_
    have X_ := hide ((unhide X).ups hb)
    clear X
    have X := X_
    clear X_
    have Y_ := hide ((unhide Y).ups hb)
    clear Y
    have Y := Y_
    clear Y_
    have G_ := hide ((unhide G).ups hb)
    clear G
    have G := G_
    clear G_
    have OW_ := hide ((unhide OW).up hb)
    clear OW
    have OW := OW_
    clear OW_
    have OX_ := hide ((unhide OX).up hb)
    clear OX
    have OX := OX_
    clear OX_
    have OY_ := hide ((unhide OY).up hb)
    clear OY
    have OY := OY_
    clear OY_
    have OG_ := hide ((unhide OG).up hb)
    clear OG
    have OG := OG_
    clear OG_
    have OD_ := hide ((unhide OD).up hb)
    clear OD
    have OD := OD_
    clear OD_
    have sz18 := hide (hb.size)
    have BB_ := hide (below_y (unhide BB) hb)
    clear BB
    have BB := BB_
    clear BB_
    clear hb
    go_wp2_with fail
    refine hK.out _ _ (⟨(unhide Y).cell 0 rfl, (unhide Y).cell 1 rfl, (unhide Y).cell 2 rfl, (unhide Y).cell 3 rfl, (unhide Y).cell 4 rfl, (unhide Y).cell 5 rfl, (unhide Y).cell 6 rfl, (unhide E).cell 0 rfl, (unhide E).cell 1 rfl, (unhide E).cell 2 rfl, (unhide E).cell 3 rfl, (unhide E).cell 4 rfl, (unhide E).cell 5 rfl, (unhide E).cell 6 rfl⟩) (fun hHeld2 => ?_)
    clear hK K hHeld
    have hHeld := hHeld2; clear hHeld2
    try simp only [Act.put, List.setIfInBounds_toArray, List.set_cons_zero, List.set_cons_succ]
    refine takeVal 4 (some 49) ?_ rfl (by kernel_rfl) (by kernel_rfl) (by kernel_rfl) rfl (fun _ _ _ h => h) (by rfl) (by assumption) ?_ ?_
    rotate_left
    · (intro w hSw; (try dsimp only at hSw); go_simp <;> with_reducible rfl)
    simp only [Act.put, List.setIfInBounds_toArray, List.set_cons_zero, List.set_cons_succ]
    refine wpAnyH_done (by kernel_rfl) ?_ _
    clear OD
    have M9 := hide (fun (W : World) h => markStore_any LX (.slice aX LX.length cX)  s.valid w5.heap.size 1 W (((unhide SM).a).sumL (unhide HLX)) (((unhide SM).a).on (unhide HLX)) (by decide) (by decide) (unhide APX) h)
    obtain ⟨KX, hKX⟩ : ∃ K, K = 1 + sumB LX := ⟨_, rfl⟩
    rw [← hKX] at M9
    have jKX : ¬ (KX : Int) < 0 := by omega
    have bKX : KX ≤ 1 + 20971520 := by have q1 := sumB_le LX; have q2 := ((unhide SM).a).sumL (unhide HLX); omega
    have HKX := hide hKX
    clear hKX
    have Xc0_15 := (unhide X).cell 0 rfl
    have Xc1_15 := (unhide X).cell 1 rfl
    go_wp2_with fail
    clear Xc0_15 Xc1_15
    refine (unhide M9 _ (unhide OX)).mono ?_
    rintro e w17 ⟨rfl, om, hg⟩
    have A_ := hide (hg.obj (unhide A) (fun hh => by rcases hh with hh | ⟨z, hz, hh | hh⟩; exact (unhide A).not_row (by decide) (unhide OX).row hh; exact (unhide A).not_row (by decide) ((unhide OX).each z hz).1 hh; exact (unhide A).not_row (by decide) ((unhide OX).each z hz).2 hh))
    have E_ := hide (hg.obj (unhide E) (fun hh => by rcases hh with hh | ⟨z, hz, hh | hh⟩; exact (unhide E).not_row (by decide) (unhide OX).row hh; exact (unhide E).not_row (by decide) ((unhide OX).each z hz).1 hh; exact (unhide E).not_row (by decide) ((unhide OX).each z hz).2 hh))
    have W_ := hide (hg.obj (unhide W) (fun hh => by rcases hh with hh | ⟨z, hz, hh | hh⟩; exact (unhide W).not_row (by decide) (unhide OX).row hh; exact (unhide W).not_row (by decide) ((unhide OX).each z hz).1 hh; exact (unhide W).not_row (by decide) ((unhide OX).each z hz).2 hh))
    have X_ := hide (hg.obj (unhide X) (fun hh => by rcases hh with hh | ⟨z, hz, hh | hh⟩; exact (unhide X).not_row (by decide) (unhide OX).row hh; exact (unhide X).not_row (by decide) ((unhide OX).each z hz).1 hh; exact (unhide X).not_row (by decide) ((unhide OX).each z hz).2 hh))
    have Y_ := hide (hg.obj (unhide Y) (fun hh => by have q2 := unhide NX _ hh; have q3 := unhide LTY; have sz1_ := unhide sz1; have sz2_ := unhide sz2; have sz3_ := unhide sz3; have sz4_ := unhide sz4; have sz5_ := unhide sz5; have sz6_ := unhide sz6; have sz7_ := unhide sz7; have sz8_ := unhide sz8; have sz9_ := unhide sz9; have sz10_ := unhide sz10; have sz11_ := unhide sz11; have sz12_ := unhide sz12; have sz13_ := unhide sz13; have sz14_ := unhide sz14; have sz15_ := unhide sz15; have sz16_ := unhide sz16; have sz17_ := unhide sz17; have sz18_ := unhide sz18; omega))
    have G_ := hide (hg.obj (unhide G) (fun hh => by rcases hh with hh | ⟨z, hz, hh | hh⟩; exact (unhide G).not_row (by decide) (unhide OX).row hh; exact (unhide G).not_row (by decide) ((unhide OX).each z hz).1 hh; exact (unhide G).not_row (by decide) ((unhide OX).each z hz).2 hh))
    have OW_ := hide ((unhide OW).butB hg (fun g hg1 hg2 => by have q1 := unhide NW g hg1; have q2 := unhide NX g hg2; have sz1_ := unhide sz1; have sz2_ := unhide sz2; have sz3_ := unhide sz3; have sz4_ := unhide sz4; have sz5_ := unhide sz5; have sz6_ := unhide sz6; have sz7_ := unhide sz7; have sz8_ := unhide sz8; have sz9_ := unhide sz9; have sz10_ := unhide sz10; have sz11_ := unhide sz11; have sz12_ := unhide sz12; have sz13_ := unhide sz13; have sz14_ := unhide sz14; have sz15_ := unhide sz15; have sz16_ := unhide sz16; have sz17_ := unhide sz17; have sz18_ := unhide sz18; omega))
    have OY_ := hide ((unhide OY).but hg (fun g hg1 hg2 => by have q1 := unhide NY g hg1; have q2 := unhide NX g hg2; have sz1_ := unhide sz1; have sz2_ := unhide sz2; have sz3_ := unhide sz3; have sz4_ := unhide sz4; have sz5_ := unhide sz5; have sz6_ := unhide sz6; have sz7_ := unhide sz7; have sz8_ := unhide sz8; have sz9_ := unhide sz9; have sz10_ := unhide sz10; have sz11_ := unhide sz11; have sz12_ := unhide sz12; have sz13_ := unhide sz13; have sz14_ := unhide sz14; have sz15_ := unhide sz15; have sz16_ := unhide sz16; have sz17_ := unhide sz17; have sz18_ := unhide sz18; omega))
    have OG_ := hide ((unhide OG).butB hg (fun g hg1 hg2 => by have q1 := unhide NG g hg1; have q2 := unhide NX g hg2; have sz1_ := unhide sz1; have sz2_ := unhide sz2; have sz3_ := unhide sz3; have sz4_ := unhide sz4; have sz5_ := unhide sz5; have sz6_ := unhide sz6; have sz7_ := unhide sz7; have sz8_ := unhide sz8; have sz9_ := unhide sz9; have sz10_ := unhide sz10; have sz11_ := unhide sz11; have sz12_ := unhide sz12; have sz13_ := unhide sz13; have sz14_ := unhide sz14; have sz15_ := unhide sz15; have sz16_ := unhide sz16; have sz17_ := unhide sz17; have sz18_ := unhide sz18; omega))
    have BB_ : Hid (Below w.heap.size w w17) := (unhide BB).trans (hg.toBelow (unhide BB).size (fun g hh => by have q2 := unhide NX g hh; have sz1_ := unhide sz1; have sz2_ := unhide sz2; have sz3_ := unhide sz3; have sz4_ := unhide sz4; have sz5_ := unhide sz5; have sz6_ := unhide sz6; have sz7_ := unhide sz7; have sz8_ := unhide sz8; have sz9_ := unhide sz9; have sz10_ := unhide sz10; have sz11_ := unhide sz11; have sz12_ := unhide sz12; have sz13_ := unhide sz13; have sz14_ := unhide sz14; have sz15_ := unhide sz15; have sz16_ := unhide sz16; have sz17_ := unhide sz17; have sz18_ := unhide sz18; omega))
    have sz19 := hide (hg.size)
    clear A
    have A := A_
    clear A_
    clear E
    have E := E_
    clear E_
    clear W
    have W := W_
    clear W_
    clear X
    have X := X_
    clear X_
    clear Y
    have Y := Y_
    clear Y_
    clear G
    have G := G_
    clear G_
    clear OW
    have OW := OW_
    clear OW_
    clear OY
    have OY := OY_
    clear OY_
    clear OG
    have OG := OG_
    clear OG_
    clear BB
    have BB := BB_
    clear BB_
    clear OX M9
    have OX := hide om
    clear om hg
    clear OX
    clear X
    have bx9 : KX ≤ 10000000 := by have q1 := unhide HKX; have q2 := sumB_le LX; rw [unhide HLX] at q2; have q3 := (unhide SM).sum; omega
    have z1 := (unhide BM).2.1.1
    have z2 := (unhide BM).2.2
    have kx1 : 1 ≤ KX := by have q1 := unhide HKX; omega
    have Yc0_16 := (unhide Y).cell 0 rfl
    have Yc1_16 := (unhide Y).cell 1 rfl
    have Yc2_16 := (unhide Y).cell 2 rfl
    have Yc3_16 := (unhide Y).cell 3 rfl
    have Yc4_16 := (unhide Y).cell 4 rfl
    have Yc5_16 := (unhide Y).cell 5 rfl
    have Yc6_16 := (unhide Y).cell 6 rfl
    go_wp2_with fail
    clear Yc0_16 Yc1_16 Yc2_16 Yc3_16 Yc4_16 Yc5_16 Yc6_16
    refine (markBox_any b _ _ _ KX _ (unhide BM).2.1.1 (unhide BM).2.2 kx1 bx9 (unhide OY)).mono ?_
    rintro e w18 ⟨rfl, om, hg⟩
    have A_ := hide (hg.obj (unhide A) (fun hh => by rcases hh with hh | hh; exact (unhide A).not_row (by decide) (unhide OY).1 hh; exact (unhide A).not_row (by decide) (unhide OY).2 hh))
    have E_ := hide (hg.obj (unhide E) (fun hh => by rcases hh with hh | hh; exact (unhide E).not_row (by decide) (unhide OY).1 hh; exact (unhide E).not_row (by decide) (unhide OY).2 hh))
    have W_ := hide (hg.obj (unhide W) (fun hh => by rcases hh with hh | hh; exact (unhide W).not_row (by decide) (unhide OY).1 hh; exact (unhide W).not_row (by decide) (unhide OY).2 hh))
    have Y_ := hide (hg.obj (unhide Y) (fun hh => by rcases hh with hh | hh; exact (unhide Y).not_row (by decide) (unhide OY).1 hh; exact (unhide Y).not_row (by decide) (unhide OY).2 hh))
    have G_ := hide (hg.obj (unhide G) (fun hh => by rcases hh with hh | hh; exact (unhide G).not_row (by decide) (unhide OY).1 hh; exact (unhide G).not_row (by decide) (unhide OY).2 hh))
    have OW_ := hide ((unhide OW).butB hg (fun g hg1 hg2 => by have q1 := unhide NW g hg1; have q2 := unhide NY g hg2; have sz1_ := unhide sz1; have sz2_ := unhide sz2; have sz3_ := unhide sz3; have sz4_ := unhide sz4; have sz5_ := unhide sz5; have sz6_ := unhide sz6; have sz7_ := unhide sz7; have sz8_ := unhide sz8; have sz9_ := unhide sz9; have sz10_ := unhide sz10; have sz11_ := unhide sz11; have sz12_ := unhide sz12; have sz13_ := unhide sz13; have sz14_ := unhide sz14; have sz15_ := unhide sz15; have sz16_ := unhide sz16; have sz17_ := unhide sz17; have sz18_ := unhide sz18; have sz19_ := unhide sz19; omega))
    have OG_ := hide ((unhide OG).butB hg (fun g hg1 hg2 => by have q1 := unhide NG g hg1; have q2 := unhide NY g hg2; have sz1_ := unhide sz1; have sz2_ := unhide sz2; have sz3_ := unhide sz3; have sz4_ := unhide sz4; have sz5_ := unhide sz5; have sz6_ := unhide sz6; have sz7_ := unhide sz7; have sz8_ := unhide sz8; have sz9_ := unhide sz9; have sz10_ := unhide sz10; have sz11_ := unhide sz11; have sz12_ := unhide sz12; have sz13_ := unhide sz13; have sz14_ := unhide sz14; have sz15_ := unhide sz15; have sz16_ := unhide sz16; have sz17_ := unhide sz17; have sz18_ := unhide sz18; have sz19_ := unhide sz19; omega))
    have BB_ : Hid (Below w.heap.size w w18) := (unhide BB).trans (hg.toBelow (unhide BB).size (fun g hh => by have q2 := unhide NY g hh; have sz1_ := unhide sz1; have sz2_ := unhide sz2; have sz3_ := unhide sz3; have sz4_ := unhide sz4; have sz5_ := unhide sz5; have sz6_ := unhide sz6; have sz7_ := unhide sz7; have sz8_ := unhide sz8; have sz9_ := unhide sz9; have sz10_ := unhide sz10; have sz11_ := unhide sz11; have sz12_ := unhide sz12; have sz13_ := unhide sz13; have sz14_ := unhide sz14; have sz15_ := unhide sz15; have sz16_ := unhide sz16; have sz17_ := unhide sz17; have sz18_ := unhide sz18; have sz19_ := unhide sz19; omega))
    have sz20 := hide (hg.size)
    clear A
    have A := A_
    clear A_
    clear E
    have E := E_
    clear E_
    clear W
    have W := W_
    clear W_
    clear Y
    have Y := Y_
    clear Y_
    clear G
    have G := G_
    clear G_
    clear OW
    have OW := OW_
    clear OW_
    clear OG
    have OG := OG_
    clear OG_
    clear BB
    have BB := BB_
    clear BB_
    clear om hg
    clear OY
    clear Y
    have jy : ¬ (KX : Int) + (b.mails.length : Int) * 4 + (b.tombs.length : Int) * 2 < 0 := by omega
    have Gc0_17 := (unhide G).cell 0 rfl
    have Gc1_17 := (unhide G).cell 1 rfl
    have Wc0_18 := (unhide W).cell 0 rfl
    have Wc1_18 := (unhide W).cell 1 rfl
    go_wp2_with fail
    clear Gc0_17 Gc1_17 Wc0_18 Wc1_18
    refine (eqStore_same ⟨z, s.valid⟩ LG LW _ _ _ _ _ ((unhide SA)).len ((unhide SA)).each (unhide HLG) (unhide HLW) (unhide OG) (unhide OW)).mono ?_
    rintro e w19 ⟨rfl, hb⟩
    have A_ := hide ((unhide A).ups hb)
    clear A
    have A := A_
    clear A_
    have E_ := hide ((unhide E).ups hb)
    clear E
    have E := E_
    clear E_
    have W_ := hide ((unhide W).ups hb)
    clear W
    have W := W_
    clear W_
    have G_ := hide ((unhide G).ups hb)
    clear G
    have G := G_
    clear G_
    have OW_ := hide ((unhide OW).up hb)
    clear OW
    have OW := OW_
    clear OW_
    have OG_ := hide ((unhide OG).up hb)
    clear OG
    have OG := OG_
    clear OG_
    have sz21 := hide (hb.size)
    have BB_ := hide (below_y (unhide BB) hb)
    clear BB
    have BB := BB_
    clear BB_
    clear hb
    have M9 := hide (fun (W : World) h => markStore_any LG (.slice aG LG.length cG)  s.valid w9.heap.size 1 W (((unhide SA)).sumL (unhide HLG)) (((unhide SA)).on (unhide HLG)) (by decide) (by decide) (unhide APG) h)
    obtain ⟨KG, hKG⟩ : ∃ K, K = 1 + sumB LG := ⟨_, rfl⟩
    rw [← hKG] at M9
    have jKG : ¬ (KG : Int) < 0 := by omega
    have bKG : KG ≤ 1 + 20971520 := by have q1 := sumB_le LG; have q2 := ((unhide SA)).sumL (unhide HLG); omega
    have HKG := hide hKG
    clear hKG
    have Gc0_19 := (unhide G).cell 0 rfl
    have Gc1_19 := (unhide G).cell 1 rfl
    go_wp2_with fail
    clear Gc0_19 Gc1_19
    refine (unhide M9 _ (unhide OG)).mono ?_
    rintro e w20 ⟨rfl, om, hg⟩
    have A_ := hide (hg.obj (unhide A) (fun hh => by rcases hh with hh | ⟨z, hz, hh | hh⟩; exact (unhide A).not_row (by decide) (unhide OG).row hh; exact (unhide A).not_row (by decide) ((unhide OG).each z hz).1 hh; exact (unhide A).not_row (by decide) ((unhide OG).each z hz).2 hh))
    have E_ := hide (hg.obj (unhide E) (fun hh => by rcases hh with hh | ⟨z, hz, hh | hh⟩; exact (unhide E).not_row (by decide) (unhide OG).row hh; exact (unhide E).not_row (by decide) ((unhide OG).each z hz).1 hh; exact (unhide E).not_row (by decide) ((unhide OG).each z hz).2 hh))
    have W_ := hide (hg.obj (unhide W) (fun hh => by rcases hh with hh | ⟨z, hz, hh | hh⟩; exact (unhide W).not_row (by decide) (unhide OG).row hh; exact (unhide W).not_row (by decide) ((unhide OG).each z hz).1 hh; exact (unhide W).not_row (by decide) ((unhide OG).each z hz).2 hh))
    have G_ := hide (hg.obj (unhide G) (fun hh => by rcases hh with hh | ⟨z, hz, hh | hh⟩; exact (unhide G).not_row (by decide) (unhide OG).row hh; exact (unhide G).not_row (by decide) ((unhide OG).each z hz).1 hh; exact (unhide G).not_row (by decide) ((unhide OG).each z hz).2 hh))
    have OW_ := hide ((unhide OW).butB hg (fun g hg1 hg2 => by have q1 := unhide NW g hg1; have q2 := unhide NG g hg2; have sz1_ := unhide sz1; have sz2_ := unhide sz2; have sz3_ := unhide sz3; have sz4_ := unhide sz4; have sz5_ := unhide sz5; have sz6_ := unhide sz6; have sz7_ := unhide sz7; have sz8_ := unhide sz8; have sz9_ := unhide sz9; have sz10_ := unhide sz10; have sz11_ := unhide sz11; have sz12_ := unhide sz12; have sz13_ := unhide sz13; have sz14_ := unhide sz14; have sz15_ := unhide sz15; have sz16_ := unhide sz16; have sz17_ := unhide sz17; have sz18_ := unhide sz18; have sz19_ := unhide sz19; have sz20_ := unhide sz20; have sz21_ := unhide sz21; omega))
    have BB_ : Hid (Below w.heap.size w w20) := (unhide BB).trans (hg.toBelow (unhide BB).size (fun g hh => by have q2 := unhide NG g hh; have sz1_ := unhide sz1; have sz2_ := unhide sz2; have sz3_ := unhide sz3; have sz4_ := unhide sz4; have sz5_ := unhide sz5; have sz6_ := unhide sz6; have sz7_ := unhide sz7; have sz8_ := unhide sz8; have sz9_ := unhide sz9; have sz10_ := unhide sz10; have sz11_ := unhide sz11; have sz12_ := unhide sz12; have sz13_ := unhide sz13; have sz14_ := unhide sz14; have sz15_ := unhide sz15; have sz16_ := unhide sz16; have sz17_ := unhide sz17; have sz18_ := unhide sz18; have sz19_ := unhide sz19; have sz20_ := unhide sz20; have sz21_ := unhide sz21; omega))
    have sz22 := hide (hg.size)
    clear A
    have A := A_
    clear A_
    clear E
    have E := E_
    clear E_
    clear W
    have W := W_
    clear W_
    clear G
    have G := G_
    clear G_
    clear OW
    have OW := OW_
    clear OW_
    clear BB
    have BB := BB_
    clear BB_
    clear OG M9
    have OG := hide om
    clear om hg
    have M9 := hide (fun (W : World) h => heldStore_any LG (.slice aG LG.length cG)  s.valid w9.heap.size 1 W (((unhide SA)).sumL (unhide HLG)) (((unhide SA)).on (unhide HLG)) (by decide) (by decide) h)
    rw [← unhide HKG] at M9
    have Gc0_20 := (unhide G).cell 0 rfl
    have Gc1_20 := (unhide G).cell 1 rfl
    go_wp2_with fail
    clear Gc0_20 Gc1_20
    refine (unhide M9 _ (unhide OG)).mono ?_
    rintro e w21 ⟨rfl, hb⟩
    have A_ := hide ((unhide A).ups hb)
    clear A
    have A := A_
    clear A_
    have E_ := hide ((unhide E).ups hb)
    clear E
    have E := E_
    clear E_
    have W_ := hide ((unhide W).ups hb)
    clear W
    have W := W_
    clear W_
    have G_ := hide ((unhide G).ups hb)
    clear G
    have G := G_
    clear G_
    have OW_ := hide ((unhide OW).up hb)
    clear OW
    have OW := OW_
    clear OW_
    have OG_ := hide ((unhide OG).up hb)
    clear OG
    have OG := OG_
    clear OG_
    have sz23 := hide (hb.size)
    have BB_ := hide (below_y (unhide BB) hb)
    clear BB
    have BB := BB_
    clear BB_
    clear hb
    clear M9
    have Ac0_21 := (unhide A).cell 0 rfl
    have Ac1_21 := (unhide A).cell 1 rfl
    have Ec0_22 := (unhide E).cell 0 rfl
    have Ec1_22 := (unhide E).cell 1 rfl
    have Ec2_22 := (unhide E).cell 2 rfl
    have Ec3_22 := (unhide E).cell 3 rfl
    have Ec4_22 := (unhide E).cell 4 rfl
    have Ec5_22 := (unhide E).cell 5 rfl
    have Ec6_22 := (unhide E).cell 6 rfl
    go_wp2
    have B0 := BB
    go_cut [13] from 14 (fun s13 wc => ∃ (aZ : Option Addr) (cZ : Nat) (LZ : List Lb) (bxH : Nat), s13 = .pointer (some ⟨bxH, 0, none⟩) ∧ LZ.map (·.b) = z ∧ OwnBs w21.heap.size wc (.slice aZ LZ.length cZ) LZ ∧ LZ.Pairwise ApartB ∧ HasObj wc bxH 33 [.slice aZ LZ.length cZ, .int .i64 s.valid] ∧ w21.heap.size ≤ bxH ∧ Below w21.heap.size w21 wc)
    case first =>
      clear BB
      have BB := hide (Below.refl w21.heap.size w21)
      refine wp_region_held_drew (S := fun w' => w'.cell? ⟨w.heap.size, 0, none⟩ = some (.slice a0 s.boxes.length c0) ∧ w'.cell? ⟨w.heap.size, 1, none⟩ = some (.int .i64 s.valid) ∧ w'.cell? ⟨w1.heap.size, 0, none⟩ = some (.string b.name) ∧ w'.cell? ⟨w1.heap.size, 1, none⟩ = some (.int .i64 b.valid) ∧ w'.cell? ⟨w1.heap.size, 2, none⟩ = some (.int .i64 b.next) ∧ w'.cell? ⟨w1.heap.size, 3, none⟩ = some (.int .i64 b.mod) ∧ w'.cell? ⟨w1.heap.size, 4, none⟩ = some (.slice a1 b.mails.length c1) ∧ w'.cell? ⟨w1.heap.size, 5, none⟩ = some (.slice a2 b.tombs.length c2) ∧ w'.cell? ⟨w1.heap.size, 6, none⟩ = some (.int .i64 b.hor)) (by kernel_rfl) (⟨(unhide A).cell 0 rfl, (unhide A).cell 1 rfl, (unhide E).cell 0 rfl, (unhide E).cell 1 rfl, (unhide E).cell 2 rfl, (unhide E).cell 3 rfl, (unhide E).cell 4 rfl, (unhide E).cell 5 rfl, (unhide E).cell 6 rfl⟩) (fun hHeld => ?_)
      have A_ := hide ((unhide A).drew)
      clear A
      have A := A_
      clear A_
      have E_ := hide ((unhide E).drew)
      clear E
      have E := E_
      clear E_
      have W_ := hide ((unhide W).drew)
      clear W
      have W := W_
      clear W_
      have G_ := hide ((unhide G).drew)
      clear G
      have G := G_
      clear G_
      have OW_ := hide ((unhide OW).drew)
      clear OW
      have OW := OW_
      clear OW_
      have OG_ := hide ((unhide OG).drew)
      clear OG
      have OG := OG_
      clear OG_
      have BB_ := hide ((unhide BB).drew)
      clear BB
      have BB := BB_
      clear BB_
      have sz24 : Hid (w21.heap.size ≤ w21.drew.heap.size) := Nat.le_refl _
      refine takeVal 0 (some 75) ?_ rfl (by kernel_rfl) (by kernel_rfl) (by kernel_rfl) rfl (fun _ _ _ h => h) (by rfl) (by assumption) ?_ ?_
      rotate_left
      · (intro w hSw; (try dsimp only at hSw); go_simp <;> with_reducible rfl)
      simp only [Act.put, List.setIfInBounds_toArray, List.set_cons_zero, List.set_cons_succ]
      refine takeVal 2 (some 77) ?_ rfl (by kernel_rfl) (by kernel_rfl) (by kernel_rfl) rfl (fun _ _ _ h => h) (by rfl) (by assumption) ?_ ?_
      rotate_left
      · (intro w hSw; (try dsimp only at hSw); go_simp <;> with_reducible rfl)
      simp only [Act.put, List.setIfInBounds_toArray, List.set_cons_zero, List.set_cons_succ]
      refine wpAnyH_ready (rs := [1, 5]) (by kernel_rfl) (by simp) ?_
      refine (AllReadyH.cons rfl (fun K hK => ?_) (AllReadyH.cons rfl (fun K hK => ?_) AllReadyH.nil))
      · skip
        go_simp
        refine (unhide TS _ (below_y (unhide B0) (unhide BB))).mono ?_
        rintro e we22 ⟨vP, LP, hLP, rfl, oP, hapP, hb⟩
        obtain ⟨aP, cP, rfl⟩ := g_shape oP.row
        have OP_ := hide oP
        have HLP := hide hLP
        clear oP hLP
        have A_ := hide ((unhide A).ups hb)
        clear A
        have A := A_
        clear A_
        have E_ := hide ((unhide E).ups hb)
        clear E
        have E := E_
        clear E_
        have W_ := hide ((unhide W).ups hb)
        clear W
        have W := W_
        clear W_
        have G_ := hide ((unhide G).ups hb)
        clear G
        have G := G_
        clear G_
        have OW_ := hide ((unhide OW).up hb)
        clear OW
        have OW := OW_
        clear OW_
        have OG_ := hide ((unhide OG).up hb)
        clear OG
        have OG := OG_
        clear OG_
        have sz25 := hide (hb.size)
        have BB_ := hide (below_y (unhide BB) hb)
        clear BB
        have BB := BB_
        clear BB_
        clear hb
        have OP := OP_
        clear OP_
        go_wp2_with fail
        refine hK.out _ _ (⟨(unhide A).cell 0 rfl, (unhide A).cell 1 rfl, (unhide E).cell 0 rfl, (unhide E).cell 1 rfl, (unhide E).cell 2 rfl, (unhide E).cell 3 rfl, (unhide E).cell 4 rfl, (unhide E).cell 5 rfl, (unhide E).cell 6 rfl⟩) (fun hHeld2 => ?_)
        clear hK K hHeld
        have hHeld := hHeld2; clear hHeld2
        try simp only [Act.put, List.setIfInBounds_toArray, List.set_cons_zero, List.set_cons_succ]
        refine wpAnyH_ready (rs := [3, 5]) (by kernel_rfl) (by simp) ?_
        refine (AllReadyH.cons rfl (fun K hK => ?_) (AllReadyH.cons rfl (fun K hK => ?_) AllReadyH.nil))
        · skip
          go_simp
          refine (unhide TB _ (below_y (unhide B0) (unhide BB))).mono ?_
          rintro e we23 ⟨mQ, tQ, rfl, oQ, hb⟩
          obtain ⟨amQ, cmQ, rfl⟩ := g_shape oQ.1
          obtain ⟨atQ, ctQ, rfl⟩ := g_shape oQ.2
          have OQ_ := hide oQ
          clear oQ
          have A_ := hide ((unhide A).ups hb)
          clear A
          have A := A_
          clear A_
          have E_ := hide ((unhide E).ups hb)
          clear E
          have E := E_
          clear E_
          have W_ := hide ((unhide W).ups hb)
          clear W
          have W := W_
          clear W_
          have G_ := hide ((unhide G).ups hb)
          clear G
          have G := G_
          clear G_
          have OW_ := hide ((unhide OW).up hb)
          clear OW
          have OW := OW_
          clear OW_
          have OG_ := hide ((unhide OG).up hb)
          clear OG
          have OG := OG_
          clear OG_
          have OP_ := hide ((unhide OP).up hb)
          clear OP
          have OP := OP_
          clear OP_
          have sz26 := hide (hb.size)
          have BB_ := hide (below_y (unhide BB) hb)
          clear BB
          have BB := BB_
          clear BB_
          clear hb
          have OQ := OQ_
          clear OQ_
          go_wp2_with fail
          refine hK.out _ _ (⟨(unhide A).cell 0 rfl, (unhide A).cell 1 rfl, (unhide E).cell 0 rfl, (unhide E).cell 1 rfl, (unhide E).cell 2 rfl, (unhide E).cell 3 rfl, (unhide E).cell 4 rfl, (unhide E).cell 5 rfl, (unhide E).cell 6 rfl⟩) (fun hHeld2 => ?_)
          clear hK K hHeld
          have hHeld := hHeld2; clear hHeld2
          try simp only [Act.put, List.setIfInBounds_toArray, List.set_cons_zero, List.set_cons_succ]
          refine wpAnyH_ready (rs := [4, 5]) (by kernel_rfl) (by simp) ?_
          refine (AllReadyH.cons rfl (fun K hK => ?_) (AllReadyH.cons rfl (fun K hK => ?_) AllReadyH.nil))
          · skip
            go_simp
            refine (unhide CJ _ _ _ _ _ _ ⟨LP, unhide HLP, unhide OP⟩ (unhide OQ) (below_y (unhide B0) (unhide BB))).mono ?_
            rintro e we24 ⟨vZ, rfl, ⟨LZ, hLZ, oZ, hapZ⟩, hb⟩
            obtain ⟨aZ, cZ, rfl⟩ := g_shape oZ.row
            have OZ_ : Hid (OwnBs w21.heap.size _ _ LZ) := oZ.based (unhide BB).size
            have HLZ := hide hLZ
            clear oZ hLZ
            have APZ := hide hapZ
            clear hapZ
            have A_ := hide ((unhide A).ups hb)
            clear A
            have A := A_
            clear A_
            have E_ := hide ((unhide E).ups hb)
            clear E
            have E := E_
            clear E_
            have W_ := hide ((unhide W).ups hb)
            clear W
            have W := W_
            clear W_
            have G_ := hide ((unhide G).ups hb)
            clear G
            have G := G_
            clear G_
            have OW_ := hide ((unhide OW).up hb)
            clear OW
            have OW := OW_
            clear OW_
            have OG_ := hide ((unhide OG).up hb)
            clear OG
            have OG := OG_
            clear OG_
            have OP_ := hide ((unhide OP).up hb)
            clear OP
            have OP := OP_
            clear OP_
            have OQ_ := hide ((unhide OQ).up hb)
            clear OQ
            have OQ := OQ_
            clear OQ_
            have sz27 := hide (hb.size)
            have BB_ := hide (below_y (unhide BB) hb)
            clear BB
            have BB := BB_
            clear BB_
            clear hb
            have OZ := OZ_
            clear OZ_
            go_wp2_with fail
            refine hK.out _ _ (⟨(unhide A).cell 0 rfl, (unhide A).cell 1 rfl, (unhide E).cell 0 rfl, (unhide E).cell 1 rfl, (unhide E).cell 2 rfl, (unhide E).cell 3 rfl, (unhide E).cell 4 rfl, (unhide E).cell 5 rfl, (unhide E).cell 6 rfl⟩) (fun hHeld2 => ?_)
            clear hK K hHeld
            have hHeld := hHeld2; clear hHeld2
            try simp only [Act.put, List.setIfInBounds_toArray, List.set_cons_zero, List.set_cons_succ]
            refine wpAnyH_ready (rs := [5]) (by kernel_rfl) (by simp) ?_
            refine (AllReadyH.cons rfl (fun K hK => ?_) AllReadyH.nil)
            go_simp
            obtain ⟨we25, hX⟩ : ∃ X, X = (we24.alloc (.cells ([.slice none 0 0, .int .i64 0] : List Value).toArray 33)) := ⟨_, rfl⟩
            rw [← hX]
            have Hx : HasObj we25 we24.heap.size 33 [.slice none 0 0, .int .i64 0] := by rw [hX]; exact HasObj.new _ _ _
            have hbn : Below we24.heap.size we24 we25 := by rw [hX]; exact (Below.refl we24.heap.size we24).alloc (Nat.le_refl _) _
            clear hX
            have neAH : w.heap.size ≠ we24.heap.size := Nat.ne_of_lt (unhide A).lt
            have neEH : w1.heap.size ≠ we24.heap.size := Nat.ne_of_lt (unhide E).lt
            have neWH : bxW ≠ we24.heap.size := Nat.ne_of_lt (unhide W).lt
            have neGH : w10.heap.size ≠ we24.heap.size := Nat.ne_of_lt (unhide G).lt
            have loH : w21.heap.size ≤ we24.heap.size := (unhide BB).size
            have A_ := hide ((unhide A).ups hbn)
            clear A
            have A := A_
            clear A_
            have E_ := hide ((unhide E).ups hbn)
            clear E
            have E := E_
            clear E_
            have W_ := hide ((unhide W).ups hbn)
            clear W
            have W := W_
            clear W_
            have G_ := hide ((unhide G).ups hbn)
            clear G
            have G := G_
            clear G_
            have OW_ := hide ((unhide OW).up hbn)
            clear OW
            have OW := OW_
            clear OW_
            have OG_ := hide ((unhide OG).up hbn)
            clear OG
            have OG := OG_
            clear OG_
            have OP_ := hide ((unhide OP).up hbn)
            clear OP
            have OP := OP_
            clear OP_
            have OQ_ := hide ((unhide OQ).up hbn)
            clear OQ
            have OQ := OQ_
            clear OQ_
            have OZ_ := hide ((unhide OZ).up hbn)
            clear OZ
            have OZ := OZ_
            clear OZ_
            have sz28 := hide (hbn.size)
            have BB_ := hide (below_y (unhide BB) hbn)
            clear BB
            have BB := BB_
            clear BB_
            clear hbn
            have H := hide Hx
            clear Hx
            refine hK.out _ _ (⟨(unhide A).cell 0 rfl, (unhide A).cell 1 rfl, (unhide E).cell 0 rfl, (unhide E).cell 1 rfl, (unhide E).cell 2 rfl, (unhide E).cell 3 rfl, (unhide E).cell 4 rfl, (unhide E).cell 5 rfl, (unhide E).cell 6 rfl⟩) (fun hHeld2 => ?_)
            clear hK K hHeld
            have hHeld := hHeld2; clear hHeld2
            try simp only [Act.put, List.setIfInBounds_toArray, List.set_cons_zero, List.set_cons_succ]
            have Hf0 := (unhide H).frozen 0
            have Hf1 := (unhide H).frozen 1
            have He0 := (unhide H).cell 0 rfl
            have He1 := (unhide H).cell 1 rfl
            have F_ := hide (fill2 (unhide H) (.slice aZ LZ.length cZ) (.int .i64 s.valid))
            refine wpAnyH_ready (rs := [6]) (by kernel_rfl) (by simp) ?_
            refine AllReadyH.cons rfl (fun K hK => ?_) AllReadyH.nil
            go_simp
            obtain ⟨we26, hU⟩ : ∃ U, U = ((we25.setCell ⟨we24.heap.size, 0, none⟩ (.slice aZ LZ.length cZ)).setCell ⟨we24.heap.size, 1, none⟩ (.int .i64 s.valid)) := ⟨_, rfl⟩
            have F := unhide F_
            rw [← hU] at F ⊢
            clear hU F_
            clear Hf0 Hf1 He0 He1
            have A_ := hide (F.other neAH (unhide A))
            have E_ := hide (F.other neEH (unhide E))
            have W_ := hide (F.other neWH (unhide W))
            have G_ := hide (F.other neGH (unhide G))
            have H_ := hide (F.obj)
            have OW_ : Hid (OwnBs w4.heap.size we26 (.slice aW LW.length cW) (LW)) := ⟨F.row (by decide) (unhide OW).row, fun x hx => ⟨F.row (by decide) ((unhide OW).each x hx).1, F.row (by decide) ((unhide OW).each x hx).2⟩⟩
            have OG_ : Hid (OwnBs w9.heap.size we26 (.slice aG LG.length cG) (markBs 1 LG)) := ⟨F.row (by decide) (unhide OG).row, fun x hx => ⟨F.row (by decide) ((unhide OG).each x hx).1, F.row (by decide) ((unhide OG).each x hx).2⟩⟩
            have OP_ : Hid (OwnBs w21.drew.heap.size we26 (.slice aP LP.length cP) (LP)) := ⟨F.row (by decide) (unhide OP).row, fun x hx => ⟨F.row (by decide) ((unhide OP).each x hx).1, F.row (by decide) ((unhide OP).each x hx).2⟩⟩
            have OQ_ : Hid (OwnBx we22.heap.size we26 (.slice amQ b.mails.length cmQ) (.slice atQ b.tombs.length ctQ) b) := ⟨F.row (by decide) (unhide OQ).1, F.row (by decide) (unhide OQ).2⟩
            have OZ_ : Hid (OwnBs w21.heap.size we26 (.slice aZ LZ.length cZ) (LZ)) := ⟨F.row (by decide) (unhide OZ).row, fun x hx => ⟨F.row (by decide) ((unhide OZ).each x hx).1, F.row (by decide) ((unhide OZ).each x hx).2⟩⟩
            have BB_ : Hid (Below w21.heap.size w21 we26) := F.below loH (unhide BB)
            have sz29 : Hid (we25.heap.size ≤ we26.heap.size) := by show _ ≤ _; rw [F.size]; exact Nat.le_refl _
            clear A
            have A := A_
            clear A_
            clear E
            have E := E_
            clear E_
            clear W
            have W := W_
            clear W_
            clear G
            have G := G_
            clear G_
            clear H
            have H := H_
            clear H_
            clear OW
            have OW := OW_
            clear OW_
            clear OG
            have OG := OG_
            clear OG_
            clear OP
            have OP := OP_
            clear OP_
            clear OQ
            have OQ := OQ_
            clear OQ_
            clear OZ
            have OZ := OZ_
            clear OZ_
            clear BB
            have BB := BB_
            clear BB_
            clear F
            refine hK.out _ _ (⟨(unhide A).cell 0 rfl, (unhide A).cell 1 rfl, (unhide E).cell 0 rfl, (unhide E).cell 1 rfl, (unhide E).cell 2 rfl, (unhide E).cell 3 rfl, (unhide E).cell 4 rfl, (unhide E).cell 5 rfl, (unhide E).cell 6 rfl⟩) (fun hHeld2 => ?_)
            clear hK K hHeld
            have hHeld := hHeld2; clear hHeld2
            try simp only [Act.put, List.setIfInBounds_toArray, List.set_cons_zero, List.set_cons_succ]
            refine wpAnyH_done (by kernel_rfl) ?_ _
            go_wp2
            go_meet
            case rel => exact ⟨_, _, _, _, rfl, unhide HLZ, unhide OZ, unhide APZ, unhide H, loH, unhide BB⟩
          · skip
            go_simp
            obtain ⟨we24, hX⟩ : ∃ X, X = (we23.alloc (.cells ([.slice none 0 0, .int .i64 0] : List Value).toArray 33)) := ⟨_, rfl⟩
            rw [← hX]
            have Hx : HasObj we24 we23.heap.size 33 [.slice none 0 0, .int .i64 0] := by rw [hX]; exact HasObj.new _ _ _
            have hbn : Below we23.heap.size we23 we24 := by rw [hX]; exact (Below.refl we23.heap.size we23).alloc (Nat.le_refl _) _
            clear hX
            have neAH : w.heap.size ≠ we23.heap.size := Nat.ne_of_lt (unhide A).lt
            have neEH : w1.heap.size ≠ we23.heap.size := Nat.ne_of_lt (unhide E).lt
            have neWH : bxW ≠ we23.heap.size := Nat.ne_of_lt (unhide W).lt
            have neGH : w10.heap.size ≠ we23.heap.size := Nat.ne_of_lt (unhide G).lt
            have loH : w21.heap.size ≤ we23.heap.size := (unhide BB).size
            have A_ := hide ((unhide A).ups hbn)
            clear A
            have A := A_
            clear A_
            have E_ := hide ((unhide E).ups hbn)
            clear E
            have E := E_
            clear E_
            have W_ := hide ((unhide W).ups hbn)
            clear W
            have W := W_
            clear W_
            have G_ := hide ((unhide G).ups hbn)
            clear G
            have G := G_
            clear G_
            have OW_ := hide ((unhide OW).up hbn)
            clear OW
            have OW := OW_
            clear OW_
            have OG_ := hide ((unhide OG).up hbn)
            clear OG
            have OG := OG_
            clear OG_
            have OP_ := hide ((unhide OP).up hbn)
            clear OP
            have OP := OP_
            clear OP_
            have OQ_ := hide ((unhide OQ).up hbn)
            clear OQ
            have OQ := OQ_
            clear OQ_
            have sz27 := hide (hbn.size)
            have BB_ := hide (below_y (unhide BB) hbn)
            clear BB
            have BB := BB_
            clear BB_
            clear hbn
            have H := hide Hx
            clear Hx
            refine hK.out _ _ (⟨(unhide A).cell 0 rfl, (unhide A).cell 1 rfl, (unhide E).cell 0 rfl, (unhide E).cell 1 rfl, (unhide E).cell 2 rfl, (unhide E).cell 3 rfl, (unhide E).cell 4 rfl, (unhide E).cell 5 rfl, (unhide E).cell 6 rfl⟩) (fun hHeld2 => ?_)
            clear hK K hHeld
            have hHeld := hHeld2; clear hHeld2
            try simp only [Act.put, List.setIfInBounds_toArray, List.set_cons_zero, List.set_cons_succ]
            refine wpAnyH_ready (rs := [4]) (by kernel_rfl) (by simp) ?_
            refine (AllReadyH.cons rfl (fun K hK => ?_) AllReadyH.nil)
            go_simp
            refine (unhide CJ _ _ _ _ _ _ ⟨LP, unhide HLP, unhide OP⟩ (unhide OQ) (below_y (unhide B0) (unhide BB))).mono ?_
            rintro e we25 ⟨vZ, rfl, ⟨LZ, hLZ, oZ, hapZ⟩, hb⟩
            obtain ⟨aZ, cZ, rfl⟩ := g_shape oZ.row
            have OZ_ : Hid (OwnBs w21.heap.size _ _ LZ) := oZ.based (unhide BB).size
            have HLZ := hide hLZ
            clear oZ hLZ
            have APZ := hide hapZ
            clear hapZ
            have A_ := hide ((unhide A).ups hb)
            clear A
            have A := A_
            clear A_
            have E_ := hide ((unhide E).ups hb)
            clear E
            have E := E_
            clear E_
            have W_ := hide ((unhide W).ups hb)
            clear W
            have W := W_
            clear W_
            have G_ := hide ((unhide G).ups hb)
            clear G
            have G := G_
            clear G_
            have H_ := hide ((unhide H).ups hb)
            clear H
            have H := H_
            clear H_
            have OW_ := hide ((unhide OW).up hb)
            clear OW
            have OW := OW_
            clear OW_
            have OG_ := hide ((unhide OG).up hb)
            clear OG
            have OG := OG_
            clear OG_
            have OP_ := hide ((unhide OP).up hb)
            clear OP
            have OP := OP_
            clear OP_
            have OQ_ := hide ((unhide OQ).up hb)
            clear OQ
            have OQ := OQ_
            clear OQ_
            have sz28 := hide (hb.size)
            have BB_ := hide (below_y (unhide BB) hb)
            clear BB
            have BB := BB_
            clear BB_
            clear hb
            have OZ := OZ_
            clear OZ_
            go_wp2_with fail
            refine hK.out _ _ (⟨(unhide A).cell 0 rfl, (unhide A).cell 1 rfl, (unhide E).cell 0 rfl, (unhide E).cell 1 rfl, (unhide E).cell 2 rfl, (unhide E).cell 3 rfl, (unhide E).cell 4 rfl, (unhide E).cell 5 rfl, (unhide E).cell 6 rfl⟩) (fun hHeld2 => ?_)
            clear hK K hHeld
            have hHeld := hHeld2; clear hHeld2
            try simp only [Act.put, List.setIfInBounds_toArray, List.set_cons_zero, List.set_cons_succ]
            have Hf0 := (unhide H).frozen 0
            have Hf1 := (unhide H).frozen 1
            have He0 := (unhide H).cell 0 rfl
            have He1 := (unhide H).cell 1 rfl
            have F_ := hide (fill2 (unhide H) (.slice aZ LZ.length cZ) (.int .i64 s.valid))
            refine wpAnyH_ready (rs := [6]) (by kernel_rfl) (by simp) ?_
            refine AllReadyH.cons rfl (fun K hK => ?_) AllReadyH.nil
            go_simp
            obtain ⟨we26, hU⟩ : ∃ U, U = ((we25.setCell ⟨we23.heap.size, 0, none⟩ (.slice aZ LZ.length cZ)).setCell ⟨we23.heap.size, 1, none⟩ (.int .i64 s.valid)) := ⟨_, rfl⟩
            have F := unhide F_
            rw [← hU] at F ⊢
            clear hU F_
            clear Hf0 Hf1 He0 He1
            have A_ := hide (F.other neAH (unhide A))
            have E_ := hide (F.other neEH (unhide E))
            have W_ := hide (F.other neWH (unhide W))
            have G_ := hide (F.other neGH (unhide G))
            have H_ := hide (F.obj)
            have OW_ : Hid (OwnBs w4.heap.size we26 (.slice aW LW.length cW) (LW)) := ⟨F.row (by decide) (unhide OW).row, fun x hx => ⟨F.row (by decide) ((unhide OW).each x hx).1, F.row (by decide) ((unhide OW).each x hx).2⟩⟩
            have OG_ : Hid (OwnBs w9.heap.size we26 (.slice aG LG.length cG) (markBs 1 LG)) := ⟨F.row (by decide) (unhide OG).row, fun x hx => ⟨F.row (by decide) ((unhide OG).each x hx).1, F.row (by decide) ((unhide OG).each x hx).2⟩⟩
            have OP_ : Hid (OwnBs w21.drew.heap.size we26 (.slice aP LP.length cP) (LP)) := ⟨F.row (by decide) (unhide OP).row, fun x hx => ⟨F.row (by decide) ((unhide OP).each x hx).1, F.row (by decide) ((unhide OP).each x hx).2⟩⟩
            have OQ_ : Hid (OwnBx we22.heap.size we26 (.slice amQ b.mails.length cmQ) (.slice atQ b.tombs.length ctQ) b) := ⟨F.row (by decide) (unhide OQ).1, F.row (by decide) (unhide OQ).2⟩
            have OZ_ : Hid (OwnBs w21.heap.size we26 (.slice aZ LZ.length cZ) (LZ)) := ⟨F.row (by decide) (unhide OZ).row, fun x hx => ⟨F.row (by decide) ((unhide OZ).each x hx).1, F.row (by decide) ((unhide OZ).each x hx).2⟩⟩
            have BB_ : Hid (Below w21.heap.size w21 we26) := F.below loH (unhide BB)
            have sz29 : Hid (we25.heap.size ≤ we26.heap.size) := by show _ ≤ _; rw [F.size]; exact Nat.le_refl _
            clear A
            have A := A_
            clear A_
            clear E
            have E := E_
            clear E_
            clear W
            have W := W_
            clear W_
            clear G
            have G := G_
            clear G_
            clear H
            have H := H_
            clear H_
            clear OW
            have OW := OW_
            clear OW_
            clear OG
            have OG := OG_
            clear OG_
            clear OP
            have OP := OP_
            clear OP_
            clear OQ
            have OQ := OQ_
            clear OQ_
            clear OZ
            have OZ := OZ_
            clear OZ_
            clear BB
            have BB := BB_
            clear BB_
            clear F
            refine hK.out _ _ (⟨(unhide A).cell 0 rfl, (unhide A).cell 1 rfl, (unhide E).cell 0 rfl, (unhide E).cell 1 rfl, (unhide E).cell 2 rfl, (unhide E).cell 3 rfl, (unhide E).cell 4 rfl, (unhide E).cell 5 rfl, (unhide E).cell 6 rfl⟩) (fun hHeld2 => ?_)
            clear hK K hHeld
            have hHeld := hHeld2; clear hHeld2
            try simp only [Act.put, List.setIfInBounds_toArray, List.set_cons_zero, List.set_cons_succ]
            refine wpAnyH_done (by kernel_rfl) ?_ _
            go_wp2
            go_meet
            case rel => exact ⟨_, _, _, _, rfl, unhide HLZ, unhide OZ, unhide APZ, unhide H, loH, unhide BB⟩
        · skip
          go_simp
          obtain ⟨we23, hX⟩ : ∃ X, X = (we22.alloc (.cells ([.slice none 0 0, .int .i64 0] : List Value).toArray 33)) := ⟨_, rfl⟩
          rw [← hX]
          have Hx : HasObj we23 we22.heap.size 33 [.slice none 0 0, .int .i64 0] := by rw [hX]; exact HasObj.new _ _ _
          have hbn : Below we22.heap.size we22 we23 := by rw [hX]; exact (Below.refl we22.heap.size we22).alloc (Nat.le_refl _) _
          clear hX
          have neAH : w.heap.size ≠ we22.heap.size := Nat.ne_of_lt (unhide A).lt
          have neEH : w1.heap.size ≠ we22.heap.size := Nat.ne_of_lt (unhide E).lt
          have neWH : bxW ≠ we22.heap.size := Nat.ne_of_lt (unhide W).lt
          have neGH : w10.heap.size ≠ we22.heap.size := Nat.ne_of_lt (unhide G).lt
          have loH : w21.heap.size ≤ we22.heap.size := (unhide BB).size
          have A_ := hide ((unhide A).ups hbn)
          clear A
          have A := A_
          clear A_
          have E_ := hide ((unhide E).ups hbn)
          clear E
          have E := E_
          clear E_
          have W_ := hide ((unhide W).ups hbn)
          clear W
          have W := W_
          clear W_
          have G_ := hide ((unhide G).ups hbn)
          clear G
          have G := G_
          clear G_
          have OW_ := hide ((unhide OW).up hbn)
          clear OW
          have OW := OW_
          clear OW_
          have OG_ := hide ((unhide OG).up hbn)
          clear OG
          have OG := OG_
          clear OG_
          have OP_ := hide ((unhide OP).up hbn)
          clear OP
          have OP := OP_
          clear OP_
          have sz26 := hide (hbn.size)
          have BB_ := hide (below_y (unhide BB) hbn)
          clear BB
          have BB := BB_
          clear BB_
          clear hbn
          have H := hide Hx
          clear Hx
          refine hK.out _ _ (⟨(unhide A).cell 0 rfl, (unhide A).cell 1 rfl, (unhide E).cell 0 rfl, (unhide E).cell 1 rfl, (unhide E).cell 2 rfl, (unhide E).cell 3 rfl, (unhide E).cell 4 rfl, (unhide E).cell 5 rfl, (unhide E).cell 6 rfl⟩) (fun hHeld2 => ?_)
          clear hK K hHeld
          have hHeld := hHeld2; clear hHeld2
          try simp only [Act.put, List.setIfInBounds_toArray, List.set_cons_zero, List.set_cons_succ]
          refine wpAnyH_ready (rs := [3]) (by kernel_rfl) (by simp) ?_
          refine (AllReadyH.cons rfl (fun K hK => ?_) AllReadyH.nil)
          go_simp
          refine (unhide TB _ (below_y (unhide B0) (unhide BB))).mono ?_
          rintro e we24 ⟨mQ, tQ, rfl, oQ, hb⟩
          obtain ⟨amQ, cmQ, rfl⟩ := g_shape oQ.1
          obtain ⟨atQ, ctQ, rfl⟩ := g_shape oQ.2
          have OQ_ := hide oQ
          clear oQ
          have A_ := hide ((unhide A).ups hb)
          clear A
          have A := A_
          clear A_
          have E_ := hide ((unhide E).ups hb)
          clear E
          have E := E_
          clear E_
          have W_ := hide ((unhide W).ups hb)
          clear W
          have W := W_
          clear W_
          have G_ := hide ((unhide G).ups hb)
          clear G
          have G := G_
          clear G_
          have H_ := hide ((unhide H).ups hb)
          clear H
          have H := H_
          clear H_
          have OW_ := hide ((unhide OW).up hb)
          clear OW
          have OW := OW_
          clear OW_
          have OG_ := hide ((unhide OG).up hb)
          clear OG
          have OG := OG_
          clear OG_
          have OP_ := hide ((unhide OP).up hb)
          clear OP
          have OP := OP_
          clear OP_
          have sz27 := hide (hb.size)
          have BB_ := hide (below_y (unhide BB) hb)
          clear BB
          have BB := BB_
          clear BB_
          clear hb
          have OQ := OQ_
          clear OQ_
          go_wp2_with fail
          refine hK.out _ _ (⟨(unhide A).cell 0 rfl, (unhide A).cell 1 rfl, (unhide E).cell 0 rfl, (unhide E).cell 1 rfl, (unhide E).cell 2 rfl, (unhide E).cell 3 rfl, (unhide E).cell 4 rfl, (unhide E).cell 5 rfl, (unhide E).cell 6 rfl⟩) (fun hHeld2 => ?_)
          clear hK K hHeld
          have hHeld := hHeld2; clear hHeld2
          try simp only [Act.put, List.setIfInBounds_toArray, List.set_cons_zero, List.set_cons_succ]
          refine wpAnyH_ready (rs := [4]) (by kernel_rfl) (by simp) ?_
          refine (AllReadyH.cons rfl (fun K hK => ?_) AllReadyH.nil)
          go_simp
          refine (unhide CJ _ _ _ _ _ _ ⟨LP, unhide HLP, unhide OP⟩ (unhide OQ) (below_y (unhide B0) (unhide BB))).mono ?_
          rintro e we25 ⟨vZ, rfl, ⟨LZ, hLZ, oZ, hapZ⟩, hb⟩
          obtain ⟨aZ, cZ, rfl⟩ := g_shape oZ.row
          have OZ_ : Hid (OwnBs w21.heap.size _ _ LZ) := oZ.based (unhide BB).size
          have HLZ := hide hLZ
          clear oZ hLZ
          have APZ := hide hapZ
          clear hapZ
          have A_ := hide ((unhide A).ups hb)
          clear A
          have A := A_
          clear A_
          have E_ := hide ((unhide E).ups hb)
          clear E
          have E := E_
          clear E_
          have W_ := hide ((unhide W).ups hb)
          clear W
          have W := W_
          clear W_
          have G_ := hide ((unhide G).ups hb)
          clear G
          have G := G_
          clear G_
          have H_ := hide ((unhide H).ups hb)
          clear H
          have H := H_
          clear H_
          have OW_ := hide ((unhide OW).up hb)
          clear OW
          have OW := OW_
          clear OW_
          have OG_ := hide ((unhide OG).up hb)
          clear OG
          have OG := OG_
          clear OG_
          have OP_ := hide ((unhide OP).up hb)
          clear OP
          have OP := OP_
          clear OP_
          have OQ_ := hide ((unhide OQ).up hb)
          clear OQ
          have OQ := OQ_
          clear OQ_
          have sz28 := hide (hb.size)
          have BB_ := hide (below_y (unhide BB) hb)
          clear BB
          have BB := BB_
          clear BB_
          clear hb
          have OZ := OZ_
          clear OZ_
          go_wp2_with fail
          refine hK.out _ _ (⟨(unhide A).cell 0 rfl, (unhide A).cell 1 rfl, (unhide E).cell 0 rfl, (unhide E).cell 1 rfl, (unhide E).cell 2 rfl, (unhide E).cell 3 rfl, (unhide E).cell 4 rfl, (unhide E).cell 5 rfl, (unhide E).cell 6 rfl⟩) (fun hHeld2 => ?_)
          clear hK K hHeld
          have hHeld := hHeld2; clear hHeld2
          try simp only [Act.put, List.setIfInBounds_toArray, List.set_cons_zero, List.set_cons_succ]
          have Hf0 := (unhide H).frozen 0
          have Hf1 := (unhide H).frozen 1
          have He0 := (unhide H).cell 0 rfl
          have He1 := (unhide H).cell 1 rfl
          have F_ := hide (fill2 (unhide H) (.slice aZ LZ.length cZ) (.int .i64 s.valid))
          refine wpAnyH_ready (rs := [6]) (by kernel_rfl) (by simp) ?_
          refine AllReadyH.cons rfl (fun K hK => ?_) AllReadyH.nil
          go_simp
          obtain ⟨we26, hU⟩ : ∃ U, U = ((we25.setCell ⟨we22.heap.size, 0, none⟩ (.slice aZ LZ.length cZ)).setCell ⟨we22.heap.size, 1, none⟩ (.int .i64 s.valid)) := ⟨_, rfl⟩
          have F := unhide F_
          rw [← hU] at F ⊢
          clear hU F_
          clear Hf0 Hf1 He0 He1
          have A_ := hide (F.other neAH (unhide A))
          have E_ := hide (F.other neEH (unhide E))
          have W_ := hide (F.other neWH (unhide W))
          have G_ := hide (F.other neGH (unhide G))
          have H_ := hide (F.obj)
          have OW_ : Hid (OwnBs w4.heap.size we26 (.slice aW LW.length cW) (LW)) := ⟨F.row (by decide) (unhide OW).row, fun x hx => ⟨F.row (by decide) ((unhide OW).each x hx).1, F.row (by decide) ((unhide OW).each x hx).2⟩⟩
          have OG_ : Hid (OwnBs w9.heap.size we26 (.slice aG LG.length cG) (markBs 1 LG)) := ⟨F.row (by decide) (unhide OG).row, fun x hx => ⟨F.row (by decide) ((unhide OG).each x hx).1, F.row (by decide) ((unhide OG).each x hx).2⟩⟩
          have OP_ : Hid (OwnBs w21.drew.heap.size we26 (.slice aP LP.length cP) (LP)) := ⟨F.row (by decide) (unhide OP).row, fun x hx => ⟨F.row (by decide) ((unhide OP).each x hx).1, F.row (by decide) ((unhide OP).each x hx).2⟩⟩
          have OQ_ : Hid (OwnBx we23.heap.size we26 (.slice amQ b.mails.length cmQ) (.slice atQ b.tombs.length ctQ) b) := ⟨F.row (by decide) (unhide OQ).1, F.row (by decide) (unhide OQ).2⟩
          have OZ_ : Hid (OwnBs w21.heap.size we26 (.slice aZ LZ.length cZ) (LZ)) := ⟨F.row (by decide) (unhide OZ).row, fun x hx => ⟨F.row (by decide) ((unhide OZ).each x hx).1, F.row (by decide) ((unhide OZ).each x hx).2⟩⟩
          have BB_ : Hid (Below w21.heap.size w21 we26) := F.below loH (unhide BB)
          have sz29 : Hid (we25.heap.size ≤ we26.heap.size) := by show _ ≤ _; rw [F.size]; exact Nat.le_refl _
          clear A
          have A := A_
          clear A_
          clear E
          have E := E_
          clear E_
          clear W
          have W := W_
          clear W_
          clear G
          have G := G_
          clear G_
          clear H
          have H := H_
          clear H_
          clear OW
          have OW := OW_
          clear OW_
          clear OG
          have OG := OG_
          clear OG_
          clear OP
          have OP := OP_
          clear OP_
          clear OQ
          have OQ := OQ_
          clear OQ_
          clear OZ
          have OZ := OZ_
          clear OZ_
          clear BB
          have BB := BB_
          clear BB_
          clear F
          refine hK.out _ _ (⟨(unhide A).cell 0 rfl, (unhide A).cell 1 rfl, (unhide E).cell 0 rfl, (unhide E).cell 1 rfl, (unhide E).cell 2 rfl, (unhide E).cell 3 rfl, (unhide E).cell 4 rfl, (unhide E).cell 5 rfl, (unhide E).cell 6 rfl⟩) (fun hHeld2 => ?_)
          clear hK K hHeld
          have hHeld := hHeld2; clear hHeld2
          try simp only [Act.put, List.setIfInBounds_toArray, List.set_cons_zero, List.set_cons_succ]
          refine wpAnyH_done (by kernel_rfl) ?_ _
          go_wp2
          go_meet
          case rel => exact ⟨_, _, _, _, rfl, unhide HLZ, unhide OZ, unhide APZ, unhide H, loH, unhide BB⟩
      · skip
        go_simp
        obtain ⟨we22, hX⟩ : ∃ X, X = (w21.alloc (.cells ([.slice none 0 0, .int .i64 0] : List Value).toArray 33)).drew := ⟨_, rfl⟩
        rw [← hX]
        have Hx : HasObj we22 w21.heap.size 33 [.slice none 0 0, .int .i64 0] := by rw [hX]; exact (HasObj.new _ _ _).drew
        have hbn : Below w21.drew.heap.size w21.drew we22 := by rw [hX]; exact (Below.refl w21.drew.heap.size w21.drew).alloc (Nat.le_refl _) _
        clear hX
        have neAH : w.heap.size ≠ w21.heap.size := Nat.ne_of_lt (unhide A).lt
        have neEH : w1.heap.size ≠ w21.heap.size := Nat.ne_of_lt (unhide E).lt
        have neWH : bxW ≠ w21.heap.size := Nat.ne_of_lt (unhide W).lt
        have neGH : w10.heap.size ≠ w21.heap.size := Nat.ne_of_lt (unhide G).lt
        have loH : w21.heap.size ≤ w21.heap.size := (unhide BB).size
        have A_ := hide ((unhide A).ups hbn)
        clear A
        have A := A_
        clear A_
        have E_ := hide ((unhide E).ups hbn)
        clear E
        have E := E_
        clear E_
        have W_ := hide ((unhide W).ups hbn)
        clear W
        have W := W_
        clear W_
        have G_ := hide ((unhide G).ups hbn)
        clear G
        have G := G_
        clear G_
        have OW_ := hide ((unhide OW).up hbn)
        clear OW
        have OW := OW_
        clear OW_
        have OG_ := hide ((unhide OG).up hbn)
        clear OG
        have OG := OG_
        clear OG_
        have sz25 := hide (hbn.size)
        have BB_ := hide (below_y (unhide BB) hbn)
        clear BB
        have BB := BB_
        clear BB_
        clear hbn
        have H := hide Hx
        clear Hx
        refine hK.out _ _ (⟨(unhide A).cell 0 rfl, (unhide A).cell 1 rfl, (unhide E).cell 0 rfl, (unhide E).cell 1 rfl, (unhide E).cell 2 rfl, (unhide E).cell 3 rfl, (unhide E).cell 4 rfl, (unhide E).cell 5 rfl, (unhide E).cell 6 rfl⟩) (fun hHeld2 => ?_)
        clear hK K hHeld
        have hHeld := hHeld2; clear hHeld2
        try simp only [Act.put, List.setIfInBounds_toArray, List.set_cons_zero, List.set_cons_succ]
        refine wpAnyH_ready (rs := [1]) (by kernel_rfl) (by simp) ?_
        refine (AllReadyH.cons rfl (fun K hK => ?_) AllReadyH.nil)
        go_simp
        refine (unhide TS _ (below_y (unhide B0) (unhide BB))).mono ?_
        rintro e we23 ⟨vP, LP, hLP, rfl, oP, hapP, hb⟩
        obtain ⟨aP, cP, rfl⟩ := g_shape oP.row
        have OP_ := hide oP
        have HLP := hide hLP
        clear oP hLP
        have A_ := hide ((unhide A).ups hb)
        clear A
        have A := A_
        clear A_
        have E_ := hide ((unhide E).ups hb)
        clear E
        have E := E_
        clear E_
        have W_ := hide ((unhide W).ups hb)
        clear W
        have W := W_
        clear W_
        have G_ := hide ((unhide G).ups hb)
        clear G
        have G := G_
        clear G_
        have H_ := hide ((unhide H).ups hb)
        clear H
        have H := H_
        clear H_
        have OW_ := hide ((unhide OW).up hb)
        clear OW
        have OW := OW_
        clear OW_
        have OG_ := hide ((unhide OG).up hb)
        clear OG
        have OG := OG_
        clear OG_
        have sz26 := hide (hb.size)
        have BB_ := hide (below_y (unhide BB) hb)
        clear BB
        have BB := BB_
        clear BB_
        clear hb
        have OP := OP_
        clear OP_
        go_wp2_with fail
        refine hK.out _ _ (⟨(unhide A).cell 0 rfl, (unhide A).cell 1 rfl, (unhide E).cell 0 rfl, (unhide E).cell 1 rfl, (unhide E).cell 2 rfl, (unhide E).cell 3 rfl, (unhide E).cell 4 rfl, (unhide E).cell 5 rfl, (unhide E).cell 6 rfl⟩) (fun hHeld2 => ?_)
        clear hK K hHeld
        have hHeld := hHeld2; clear hHeld2
        try simp only [Act.put, List.setIfInBounds_toArray, List.set_cons_zero, List.set_cons_succ]
        refine wpAnyH_ready (rs := [3]) (by kernel_rfl) (by simp) ?_
        refine (AllReadyH.cons rfl (fun K hK => ?_) AllReadyH.nil)
        go_simp
        refine (unhide TB _ (below_y (unhide B0) (unhide BB))).mono ?_
        rintro e we24 ⟨mQ, tQ, rfl, oQ, hb⟩
        obtain ⟨amQ, cmQ, rfl⟩ := g_shape oQ.1
        obtain ⟨atQ, ctQ, rfl⟩ := g_shape oQ.2
        have OQ_ := hide oQ
        clear oQ
        have A_ := hide ((unhide A).ups hb)
        clear A
        have A := A_
        clear A_
        have E_ := hide ((unhide E).ups hb)
        clear E
        have E := E_
        clear E_
        have W_ := hide ((unhide W).ups hb)
        clear W
        have W := W_
        clear W_
        have G_ := hide ((unhide G).ups hb)
        clear G
        have G := G_
        clear G_
        have H_ := hide ((unhide H).ups hb)
        clear H
        have H := H_
        clear H_
        have OW_ := hide ((unhide OW).up hb)
        clear OW
        have OW := OW_
        clear OW_
        have OG_ := hide ((unhide OG).up hb)
        clear OG
        have OG := OG_
        clear OG_
        have OP_ := hide ((unhide OP).up hb)
        clear OP
        have OP := OP_
        clear OP_
        have sz27 := hide (hb.size)
        have BB_ := hide (below_y (unhide BB) hb)
        clear BB
        have BB := BB_
        clear BB_
        clear hb
        have OQ := OQ_
        clear OQ_
        go_wp2_with fail
        refine hK.out _ _ (⟨(unhide A).cell 0 rfl, (unhide A).cell 1 rfl, (unhide E).cell 0 rfl, (unhide E).cell 1 rfl, (unhide E).cell 2 rfl, (unhide E).cell 3 rfl, (unhide E).cell 4 rfl, (unhide E).cell 5 rfl, (unhide E).cell 6 rfl⟩) (fun hHeld2 => ?_)
        clear hK K hHeld
        have hHeld := hHeld2; clear hHeld2
        try simp only [Act.put, List.setIfInBounds_toArray, List.set_cons_zero, List.set_cons_succ]
        refine wpAnyH_ready (rs := [4]) (by kernel_rfl) (by simp) ?_
        refine (AllReadyH.cons rfl (fun K hK => ?_) AllReadyH.nil)
        go_simp
        refine (unhide CJ _ _ _ _ _ _ ⟨LP, unhide HLP, unhide OP⟩ (unhide OQ) (below_y (unhide B0) (unhide BB))).mono ?_
        rintro e we25 ⟨vZ, rfl, ⟨LZ, hLZ, oZ, hapZ⟩, hb⟩
        obtain ⟨aZ, cZ, rfl⟩ := g_shape oZ.row
        have OZ_ : Hid (OwnBs w21.heap.size _ _ LZ) := oZ.based (unhide BB).size
        have HLZ := hide hLZ
        clear oZ hLZ
        have APZ := hide hapZ
        clear hapZ
        have A_ := hide ((unhide A).ups hb)
        clear A
        have A := A_
        clear A_
        have E_ := hide ((unhide E).ups hb)
        clear E
        have E := E_
        clear E_
        have W_ := hide ((unhide W).ups hb)
        clear W
        have W := W_
        clear W_
        have G_ := hide ((unhide G).ups hb)
        clear G
        have G := G_
        clear G_
        have H_ := hide ((unhide H).ups hb)
        clear H
        have H := H_
        clear H_
        have OW_ := hide ((unhide OW).up hb)
        clear OW
        have OW := OW_
        clear OW_
        have OG_ := hide ((unhide OG).up hb)
        clear OG
        have OG := OG_
        clear OG_
        have OP_ := hide ((unhide OP).up hb)
        clear OP
        have OP := OP_
        clear OP_
        have OQ_ := hide ((unhide OQ).up hb)
        clear OQ
        have OQ := OQ_
        clear OQ_
        have sz28 := hide (hb.size)
        have BB_ := hide (below_y (unhide BB) hb)
        clear BB
        have BB := BB_
        clear BB_
        clear hb
        have OZ := OZ_
        clear OZ_
        go_wp2_with fail
        refine hK.out _ _ (⟨(unhide A).cell 0 rfl, (unhide A).cell 1 rfl, (unhide E).cell 0 rfl, (unhide E).cell 1 rfl, (unhide E).cell 2 rfl, (unhide E).cell 3 rfl, (unhide E).cell 4 rfl, (unhide E).cell 5 rfl, (unhide E).cell 6 rfl⟩) (fun hHeld2 => ?_)
        clear hK K hHeld
        have hHeld := hHeld2; clear hHeld2
        try simp only [Act.put, List.setIfInBounds_toArray, List.set_cons_zero, List.set_cons_succ]
        have Hf0 := (unhide H).frozen 0
        have Hf1 := (unhide H).frozen 1
        have He0 := (unhide H).cell 0 rfl
        have He1 := (unhide H).cell 1 rfl
        have F_ := hide (fill2 (unhide H) (.slice aZ LZ.length cZ) (.int .i64 s.valid))
        refine wpAnyH_ready (rs := [6]) (by kernel_rfl) (by simp) ?_
        refine AllReadyH.cons rfl (fun K hK => ?_) AllReadyH.nil
        go_simp
        obtain ⟨we26, hU⟩ : ∃ U, U = ((we25.setCell ⟨w21.heap.size, 0, none⟩ (.slice aZ LZ.length cZ)).setCell ⟨w21.heap.size, 1, none⟩ (.int .i64 s.valid)) := ⟨_, rfl⟩
        have F := unhide F_
        rw [← hU] at F ⊢
        clear hU F_
        clear Hf0 Hf1 He0 He1
        have A_ := hide (F.other neAH (unhide A))
        have E_ := hide (F.other neEH (unhide E))
        have W_ := hide (F.other neWH (unhide W))
        have G_ := hide (F.other neGH (unhide G))
        have H_ := hide (F.obj)
        have OW_ : Hid (OwnBs w4.heap.size we26 (.slice aW LW.length cW) (LW)) := ⟨F.row (by decide) (unhide OW).row, fun x hx => ⟨F.row (by decide) ((unhide OW).each x hx).1, F.row (by decide) ((unhide OW).each x hx).2⟩⟩
        have OG_ : Hid (OwnBs w9.heap.size we26 (.slice aG LG.length cG) (markBs 1 LG)) := ⟨F.row (by decide) (unhide OG).row, fun x hx => ⟨F.row (by decide) ((unhide OG).each x hx).1, F.row (by decide) ((unhide OG).each x hx).2⟩⟩
        have OP_ : Hid (OwnBs we22.heap.size we26 (.slice aP LP.length cP) (LP)) := ⟨F.row (by decide) (unhide OP).row, fun x hx => ⟨F.row (by decide) ((unhide OP).each x hx).1, F.row (by decide) ((unhide OP).each x hx).2⟩⟩
        have OQ_ : Hid (OwnBx we23.heap.size we26 (.slice amQ b.mails.length cmQ) (.slice atQ b.tombs.length ctQ) b) := ⟨F.row (by decide) (unhide OQ).1, F.row (by decide) (unhide OQ).2⟩
        have OZ_ : Hid (OwnBs w21.heap.size we26 (.slice aZ LZ.length cZ) (LZ)) := ⟨F.row (by decide) (unhide OZ).row, fun x hx => ⟨F.row (by decide) ((unhide OZ).each x hx).1, F.row (by decide) ((unhide OZ).each x hx).2⟩⟩
        have BB_ : Hid (Below w21.heap.size w21 we26) := F.below loH (unhide BB)
        have sz29 : Hid (we25.heap.size ≤ we26.heap.size) := by show _ ≤ _; rw [F.size]; exact Nat.le_refl _
        clear A
        have A := A_
        clear A_
        clear E
        have E := E_
        clear E_
        clear W
        have W := W_
        clear W_
        clear G
        have G := G_
        clear G_
        clear H
        have H := H_
        clear H_
        clear OW
        have OW := OW_
        clear OW_
        clear OG
        have OG := OG_
        clear OG_
        clear OP
        have OP := OP_
        clear OP_
        clear OQ
        have OQ := OQ_
        clear OQ_
        clear OZ
        have OZ := OZ_
        clear OZ_
        clear BB
        have BB := BB_
        clear BB_
        clear F
        refine hK.out _ _ (⟨(unhide A).cell 0 rfl, (unhide A).cell 1 rfl, (unhide E).cell 0 rfl, (unhide E).cell 1 rfl, (unhide E).cell 2 rfl, (unhide E).cell 3 rfl, (unhide E).cell 4 rfl, (unhide E).cell 5 rfl, (unhide E).cell 6 rfl⟩) (fun hHeld2 => ?_)
        clear hK K hHeld
        have hHeld := hHeld2; clear hHeld2
        try simp only [Act.put, List.setIfInBounds_toArray, List.set_cons_zero, List.set_cons_succ]
        refine wpAnyH_done (by kernel_rfl) ?_ _
        go_wp2
        go_meet
        case rel => exact ⟨_, _, _, _, rfl, unhide HLZ, unhide OZ, unhide APZ, unhide H, loH, unhide BB⟩
    case rest =>
      obtain ⟨aH, cH, LH, bxH, rfl, hLH, oH, hapH, obH, hloH, hb⟩ := hcut
      obtain ⟨w22, rfl⟩ : ∃ x, x = wc := ⟨_, rfl⟩
      have neAH : w.heap.size ≠ bxH := Nat.ne_of_lt (Nat.lt_of_lt_of_le (unhide A).lt hloH)
      have neEH : w1.heap.size ≠ bxH := Nat.ne_of_lt (Nat.lt_of_lt_of_le (unhide E).lt hloH)
      have neWH : bxW ≠ bxH := Nat.ne_of_lt (Nat.lt_of_lt_of_le (unhide W).lt hloH)
      have neGH : w10.heap.size ≠ bxH := Nat.ne_of_lt (Nat.lt_of_lt_of_le (unhide G).lt hloH)
      have loH : w.heap.size ≤ bxH := Nat.le_trans (unhide BB).size hloH
      clear B0
      have A_ := hide ((unhide A).ups hb)
      clear A
      have A := A_
      clear A_
      have E_ := hide ((unhide E).ups hb)
      clear E
      have E := E_
      clear E_
      have W_ := hide ((unhide W).ups hb)
      clear W
      have W := W_
      clear W_
      have G_ := hide ((unhide G).ups hb)
      clear G
      have G := G_
      clear G_
      have OW_ := hide ((unhide OW).up hb)
      clear OW
      have OW := OW_
      clear OW_
      have OG_ := hide ((unhide OG).up hb)
      clear OG
      have OG := OG_
      clear OG_
      have sz24 := hide (hb.size)
      have BB_ := hide (below_y (unhide BB) hb)
      clear BB
      have BB := BB_
      clear BB_
      clear hb
      have H := hide obH
      clear obH
      have NH := hide (OwnBs.base oH)
      have OH := hide oH
      have HLH := hide hLH
      clear oH hLH
      have APH := hide hapH
      clear hapH
      have Hc0_23 := (unhide H).cell 0 rfl
      have Hc1_23 := (unhide H).cell 1 rfl
      have Wc0_24 := (unhide W).cell 0 rfl
      have Wc1_24 := (unhide W).cell 1 rfl
      go_wp2_with fail
      clear Ac0_21 Ac1_21 Ec0_22 Ec1_22 Ec2_22 Ec3_22 Ec4_22 Ec5_22 Ec6_22 Hc0_23 Hc1_23 Wc0_24 Wc1_24
      refine (eqStore_same ⟨z, s.valid⟩ LH LW _ _ _ _ _ ((unhide SA)).len ((unhide SA)).each (unhide HLH) (unhide HLW) (unhide OH) (unhide OW)).mono ?_
      rintro e w23 ⟨rfl, hb⟩
      have A_ := hide ((unhide A).ups hb)
      clear A
      have A := A_
      clear A_
      have E_ := hide ((unhide E).ups hb)
      clear E
      have E := E_
      clear E_
      have W_ := hide ((unhide W).ups hb)
      clear W
      have W := W_
      clear W_
      have G_ := hide ((unhide G).ups hb)
      clear G
      have G := G_
      clear G_
      have H_ := hide ((unhide H).ups hb)
      clear H
      have H := H_
      clear H_
      have OW_ := hide ((unhide OW).up hb)
      clear OW
      have OW := OW_
      clear OW_
      have OG_ := hide ((unhide OG).up hb)
      clear OG
      have OG := OG_
      clear OG_
      have OH_ := hide ((unhide OH).up hb)
      clear OH
      have OH := OH_
      clear OH_
      have sz25 := hide (hb.size)
      have BB_ := hide (below_y (unhide BB) hb)
      clear BB
      have BB := BB_
      clear BB_
      clear hb
      have M9 := hide (fun (W : World) h => heldStore_any LG (.slice aG LG.length cG)  s.valid w9.heap.size 1 W (((unhide SA)).sumL (unhide HLG)) (((unhide SA)).on (unhide HLG)) (by decide) (by decide) h)
      rw [← unhide HKG] at M9
      have Gc0_25 := (unhide G).cell 0 rfl
      have Gc1_25 := (unhide G).cell 1 rfl
      go_wp2_with fail
      clear Gc0_25 Gc1_25
      refine (unhide M9 _ (unhide OG)).mono ?_
      rintro e w24 ⟨rfl, hb⟩
      have A_ := hide ((unhide A).ups hb)
      clear A
      have A := A_
      clear A_
      have E_ := hide ((unhide E).ups hb)
      clear E
      have E := E_
      clear E_
      have W_ := hide ((unhide W).ups hb)
      clear W
      have W := W_
      clear W_
      have G_ := hide ((unhide G).ups hb)
      clear G
      have G := G_
      clear G_
      have H_ := hide ((unhide H).ups hb)
      clear H
      have H := H_
      clear H_
      have OW_ := hide ((unhide OW).up hb)
      clear OW
      have OW := OW_
      clear OW_
      have OG_ := hide ((unhide OG).up hb)
      clear OG
      have OG := OG_
      clear OG_
      have OH_ := hide ((unhide OH).up hb)
      clear OH
      have OH := OH_
      clear OH_
      have sz26 := hide (hb.size)
      have BB_ := hide (below_y (unhide BB) hb)
      clear BB
      have BB := BB_
      clear BB_
      clear hb
      clear M9
      go_wp2
      go_ret
      exact ⟨rfl, unhide BB⟩
end Go.Proofs.Ytfemplekibpfoac
