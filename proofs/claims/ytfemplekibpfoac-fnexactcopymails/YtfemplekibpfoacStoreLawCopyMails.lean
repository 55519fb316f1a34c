/- The walk of FnExactCopyMails. Made by gen_storelaws.py. -/
import Derived.Test.YtfemplekibpfoacStoreLaws1
import Derived.Test.YtfemplekibpfoacCopyPlain
import Derived.Test.YtfemplekibpfoacRangeMarks
import Derived.Test.YtfemplekibpfoacSetA
namespace Go.Proofs.Ytfemplekibpfoac
open Go.RowKit
open Plain
set_option linter.unusedVariables false
set_option linter.unusedSimpArgs false

theorem markR_at (l : List Rg) (v : Value) (B : Nat) (w : World) (k : Int) (h0 : 0 ≤ k) (h1 : k ≤ 100000000) (hs : l.length ≤ 1048576) (h : OwnR B w v l) :
    Calls Try.prog 28 #[v, .int .i64 k] w fun e w' => e = .returned (.int .i64 (k + (l.length : Int) * 2)) ∧ OwnR B w' v (marksR k.toNat l.length) ∧ w.grownBy w' v.ownBlock := by
  obtain ⟨n, rfl⟩ : ∃ n : Nat, k = (n : Int) := ⟨k.toNat, by omega⟩
  have := markRangeS_any l v B n w hs (by omega) h
  rw [Int.toNat_natCast]
  refine this.mono fun e w' ⟨h1, h2, h3⟩ => ⟨?_, h2, h3⟩
  rw [h1]
  simp
namespace Plain
theorem putC_small (b : Bx) (l : List Bx) : sizeBs (putX b l) ≤ sizeBs l + (1 + b.mails.length + b.tombs.length) := by
  induction l with
  | nil => exact Nat.zero_le _
  | cons x l ih =>
    have e : ∀ (x : Bx) (l : List Bx), sizeBs (x :: l) = 1 + x.mails.length + x.tombs.length + sizeBs l := fun x l => by simp [sizeBs]
    unfold putX
    split
    · rw [e, e]; omega
    · rw [e, e]; omega
theorem putC_mem {b y : Bx} {l : List Bx} (h : y ∈ putX b l) : y = b ∨ y ∈ l := by
  induction l with
  | nil => cases h
  | cons x l ih =>
    unfold putX at h
    split at h
    · rcases List.mem_cons.1 h with h | h
      · exact .inl h
      · exact .inr (List.mem_cons_of_mem _ h)
    · rcases List.mem_cons.1 h with h | h
      · exact .inr (by rw [h]; exact List.mem_cons_self)
      · rcases ih h with h | h
        · exact .inl h
        · exact .inr (List.mem_cons_of_mem _ h)
theorem putC_a {b : Bx} {l : List Bx} (h : SmallBs 1048576 l) (h1 : b.mails.length ≤ 1048576) (h2 : b.tombs.length ≤ 1048576) : SmallA (putX b l) := by
  refine ⟨Nat.le_trans (putC_small b l) (by have := h.sum; omega), fun y hy => ?_⟩
  rcases putC_mem hy with rfl | hy
  · exact ⟨h1, h2⟩
  · exact h.a.each y hy
theorem addAll_ok : ∀ (l : List Ml) (b b' : Bx), boxOk b = true → addAll b l = some b' → boxOk b' = true := by
  intro l
  induction l with
  | nil => intro b b' h h2; cases h2; exact h
  | cons m l ih =>
    intro b b' h h2
    by_cases hz : (addV b m.flags m.text).2 = 0
    · rw [addAll_no hz] at h2; cases h2
    · rw [addAll_yes hz] at h2
      exact ih _ _ (addV_ok hz) h2
theorem ok_small {b : Bx} (h : boxOk b = true) : b.mails.length ≤ 1048576 ∧ b.tombs.length ≤ 1048576 := by
  have hp := head_parts (boxOk_iff.1 h).1
  exact ⟨Nat.le_trans hp.2.2.2.2.1 (by decide), Nat.le_trans hp.2.2.2.2.2.1 (by decide)⟩
theorem copyV_small (s : Sx) (f n : ByteArray) (set : List Rg) (h : SmallBs 1048576 s.boxes) : SmallA (copyV s f set n).1.boxes := by
  cases h1 : storeOk s with
  | false => rw [copyV_bad1 h1]; exact h.a
  | true =>
    cases h2 : okS set with
    | false => rw [copyV_bad2 h2]; exact h.a
    | true =>
      rw [copyV_in h1 h2]
      cases ha : boxAt s f with
      | none => exact h.a
      | some a =>
        cases hb : boxAt s n with
        | none => exact h.a
        | some b =>
          simp only
          cases hc : addAll b (inSet set a) with
          | none => exact h.a
          | some b' =>
            have ho := ok_small (addAll_ok _ _ _ ((right_st h1).each b (boxAt_mem hb).1).1 hc)
            exact putC_a h ho.1 ho.2
end Plain
set_option maxHeartbeats 16000000 in
set_option maxRecDepth 100000 in
theorem FnExactCopyMails_walk (s : Sx) (a0 : Option Addr) (c0 : Nat) (src dst : ByteArray) (a3 : Option Addr) (c3 : Nat) (set : List Rg) (w : World) (h : ArgSt w.heap.size w a0 s)
    (m3 : set.length ≤ maxLen) (h3 : ArgR w.heap.size w a3 set)
    (AL : SmallBs 1048576 s.boxes → SmallA (copyV s src set dst).1.boxes)
    (CI : ∀ (v vs : Value) (B B2 : Nat) (W : World), SmallBs 1048576 s.boxes → src.size ≤ 1048576 → dst.size ≤ 1048576 → set.length ≤ 1048576 → ReadSt B W v s.boxes → OwnR B2 W vs set → Below w.heap.size w W → Calls Try.prog 26 #[.agg #[v, .int .i64 s.valid], .string src, vs, .string dst] W fun e w' => ∃ v', e = .returned (.tuple #[.agg #[v', .int .i64 (copyV s src set dst).1.valid], .int .i64 (copyV s src set dst).2]) ∧ OwnSt W.heap.size w' v' (copyV s src set dst).1.boxes ∧ Below W.heap.size W w')
    (SI : ∀ (v vs : Value) (B B2 : Nat) (W : World), SmallBs 1048576 s.boxes → src.size ≤ 1048576 → dst.size ≤ 1048576 → set.length ≤ 1048576 → ReadSt B W v s.boxes → OwnR B2 W vs set → Calls Try.prog 24 #[.agg #[v, .int .i64 s.valid], .string src, vs, .string dst] W fun e w' => ∃ v', e = .returned (.tuple #[.agg #[v', .int .i64 (copyV s src set dst).1.valid], .int .i64 (copyV s src set dst).2]) ∧ ReadSt W.heap.size w' v' (copyV s src set dst).1.boxes ∧ Below W.heap.size W w') :
    Calls Try.prog 6 #[.agg #[.slice a0 s.boxes.length c0, .int .i64 s.valid], .string src, .slice a3 set.length c3, .string dst] w fun e w' => e = .returned (.bool true) ∧ Below w.heap.size w w' := by
  have HA := hide h; have CH := hide CI; have SH := hide SI; clear h CI SI; have BB := hide (Below.refl w.heap.size w)
  obtain ⟨w1, hA⟩ : ∃ X, X = w.alloc (.cells ([.slice a0 s.boxes.length c0, .int .i64 s.valid] : List Value).toArray 24) := ⟨_, rfl⟩
  have Ax : HasObj w1 w.heap.size 24 [.slice a0 s.boxes.length c0, .int .i64 s.valid] := by rw [hA]; exact HasObj.new _ _ _
  have hbn : Below w.heap.size w w1 := by rw [hA]; exact (Below.refl _ _).alloc (Nat.le_refl _) _
  have loA : w.heap.size ≤ w.heap.size := (unhide BB).size
  have EA := hA.symm; clear hA; have sz1 := hide (hbn.size); replace BB := hide (below_y (unhide BB) hbn); clear hbn; have A := hide Ax; clear Ax; have H3 := hide h3; clear h3
  by_cases hzsrc : src.size ≤ 1048576
  rotate_left
  · have dsrc : decide ((1048576 : Int) < (src.size : Int)) = true := by rw [decide_eq_true_eq]; omega
    go_enter Try.func6, Try.ntmps6
    go_wp2
    go_ret
    exact ⟨rfl, unhide BB⟩
  have dsrc : decide ((1048576 : Int) < (src.size : Int)) = false := by rw [decide_eq_false_iff_not]; omega
  by_cases hzdst : dst.size ≤ 1048576
  rotate_left
  · have ddst : decide ((1048576 : Int) < (dst.size : Int)) = true := by rw [decide_eq_true_eq]; omega
    go_enter Try.func6, Try.ntmps6
    go_wp2
    go_ret
    exact ⟨rfl, unhide BB⟩
  have ddst : decide ((1048576 : Int) < (dst.size : Int)) = false := by rw [decide_eq_false_iff_not]; omega
  have SZ := hide (fun W (hb : Below w.heap.size w W) => szStore_sum s a0 c0 1048576 W (Nat.le_refl _) ((unhide HA).up hb))
  have Ac0_1 := (unhide A).cell 0 rfl; have Ac1_1 := (unhide A).cell 1 rfl
  go_enter Try.func6, Try.ntmps6
  go_wp2_with fail; clear Ac0_1 Ac1_1 EA
  refine (unhide SZ _ (unhide BB)).mono ?_
  rintro e w2 ⟨⟨q, rfl, hq⟩, hb⟩
  replace A := hide ((unhide A).ups hb); have sz2 := hide (hb.size); replace BB := hide (below_y (unhide BB) hb); clear hb; clear SZ
  rcases hq with rfl | ⟨q, rfl, hq, hsm⟩
  · go_wp2
    go_ret
    exact ⟨rfl, unhide BB⟩
  have iq : ¬ (q : Int) < 0 := by omega
  have SM := hide hsm; clear hsm
  have TS := hide (fun W (hb : Below w.heap.size w W) => toStore_any s a0 c0 W (unhide SM) ((unhide HA).up hb))
  go_wp2_with fail
  refine (szRangeS_any a3 c3 set.length q _ (by omega) m3).mono ?_
  rintro e wy ⟨⟨r, rfl, hr⟩, hw⟩
  subst wy
  rcases hr with rfl | ⟨r, rfl, hr, hsl⟩
  · go_wp2
    go_ret
    exact ⟨rfl, unhide BB⟩
  have i2 : ¬ (r : Int) < 0 := by omega
  have hs : set.length ≤ 1048576 := by omega
  clear hsl
  have TR := hide (fun (W : World) (hb : Below w.heap.size w W) => toRangeS_any a3 c3 set W hs ((unhide H3).up hb))
  have CJ := hide (fun (v vs : Value) (B B2 : Nat) (W : World) (h : ReadSt B W v s.boxes) (h2 : OwnR B2 W vs set) hb => unhide CH v vs B B2 W (unhide SM) hzsrc hzdst hs h h2 hb)
  have SJ := hide (fun (v vs : Value) (B B2 : Nat) (W : World) (h : ReadSt B W v s.boxes) (h2 : OwnR B2 W vs set) => unhide SH v vs B B2 W (unhide SM) hzsrc hzdst hs h h2)
  have SA := hide (AL (unhide SM)); clear CH SH AL
  generalize copyV s src set dst = an at *
  obtain ⟨z, code⟩ := an
  simp only at CJ SJ SA
  have Ac0_2 := (unhide A).cell 0 rfl; have Ac1_2 := (unhide A).cell 1 rfl; go_wp2_with fail; clear Ac0_2 Ac1_2
  refine (unhide TS _ (unhide BB)).mono ?_
  rintro e w3 ⟨vP, LP, hLP, rfl, oP, hapP, hb⟩
  obtain ⟨aP, cP, rfl⟩ := g_shape oP.row
  have NP := hide (OwnBs.base oP); have OP_ := hide oP; have HLP := hide hLP; clear oP hLP; have APP := hide hapP; clear hapP; replace A := hide ((unhide A).ups hb); have sz3 := hide (hb.size); replace BB := hide (below_y (unhide BB) hb); clear hb; have OP := OP_; clear OP_; go_wp2_with fail
  refine (unhide TR _ (unhide BB)).mono ?_
  rintro e w4 ⟨vPS, rfl, oPS, hb⟩
  have NPS := hide (fun g (h : Value.ownBlock _ = some g) => World.ownsRow.lt oPS g h)
  have RPS_ := hide oPS; clear oPS; replace A := hide ((unhide A).ups hb); replace OP := hide ((unhide OP).up hb); have sz4 := hide (hb.size); replace BB := hide (below_y (unhide BB) hb); clear hb; have RPS := RPS_; clear RPS_; go_wp2_with fail
  refine (unhide SJ _ _ _ _ _ ⟨LP, unhide HLP, unhide OP⟩ (unhide RPS)).mono ?_
  rintro e w5 ⟨vW, rfl, ⟨LW, hLW, oW⟩, hb⟩
  obtain ⟨aW, cW, rfl⟩ := g_shape oW.row
  have NW := hide (OwnBs.base oW); have OW_ := hide oW; have HLW := hide hLW; clear oW hLW; replace A := hide ((unhide A).ups hb); replace OP := hide ((unhide OP).up hb); replace RPS := hide ((unhide RPS).up hb); have sz5 := hide (hb.size); replace BB := hide (below_y (unhide BB) hb); clear hb; have OW := OW_; clear OW_; clear OP; clear RPS
  obtain ⟨w6, hW⟩ : ∃ X, X = w5.alloc (.cells ([.slice aW LW.length cW, .int .i64 z.valid] : List Value).toArray 33) := ⟨_, rfl⟩
  have Wx : HasObj w6 w5.heap.size 33 [.slice aW LW.length cW, .int .i64 z.valid] := by rw [hW]; exact HasObj.new _ _ _
  have hbn : Below w5.heap.size w5 w6 := by rw [hW]; exact (Below.refl _ _).alloc (Nat.le_refl _) _
  have neAW : w.heap.size ≠ w5.heap.size := Nat.ne_of_lt (unhide A).lt
  have loW : w.heap.size ≤ w5.heap.size := (unhide BB).size
  have EW := hW.symm; clear hW; replace A := hide ((unhide A).ups hbn); replace OW := hide ((unhide OW).up hbn); have sz6 := hide (hbn.size); replace BB := hide (below_y (unhide BB) hbn); clear hbn; have W := hide Wx; clear Wx; have Ac0_3 := (unhide A).cell 0 rfl; have Ac1_3 := (unhide A).cell 1 rfl; go_wp2_with fail; clear Ac0_3 Ac1_3 EW
  refine (unhide TS _ (unhide BB)).mono ?_
  rintro e w7 ⟨vX, LX, hLX, rfl, oX, hapX, hb⟩
  obtain ⟨aX, cX, rfl⟩ := g_shape oX.row
  have NX := hide (OwnBs.base oX); have OX_ := hide oX; have HLX := hide hLX; clear oX hLX; have APX := hide hapX; clear hapX; replace A := hide ((unhide A).ups hb); replace W := hide ((unhide W).ups hb); replace OW := hide ((unhide OW).up hb); have sz7 := hide (hb.size); replace BB := hide (below_y (unhide BB) hb); clear hb; have OX := OX_; clear OX_
  obtain ⟨w8, hX⟩ : ∃ X, X = w7.alloc (.cells ([.slice aX LX.length cX, .int .i64 s.valid] : List Value).toArray 33) := ⟨_, rfl⟩
  have Xx : HasObj w8 w7.heap.size 33 [.slice aX LX.length cX, .int .i64 s.valid] := by rw [hX]; exact HasObj.new _ _ _
  have hbn : Below w7.heap.size w7 w8 := by rw [hX]; exact (Below.refl _ _).alloc (Nat.le_refl _) _
  have neAX : w.heap.size ≠ w7.heap.size := Nat.ne_of_lt (unhide A).lt
  have neWX : w5.heap.size ≠ w7.heap.size := Nat.ne_of_lt (unhide W).lt
  have loX : w.heap.size ≤ w7.heap.size := (unhide BB).size
  have EX := hX.symm; clear hX; replace A := hide ((unhide A).ups hbn); replace W := hide ((unhide W).ups hbn); replace OW := hide ((unhide OW).up hbn); replace OX := hide ((unhide OX).up hbn); have sz8 := hide (hbn.size); replace BB := hide (below_y (unhide BB) hbn); clear hbn; have X := hide Xx; clear Xx; go_wp2_with fail; clear EX
  refine (unhide TR _ (unhide BB)).mono ?_
  rintro e w9 ⟨vXS, rfl, oXS, hb⟩
  have NXS := hide (fun g (h : Value.ownBlock _ = some g) => World.ownsRow.lt oXS g h)
  have RXS_ := hide oXS; clear oXS; replace A := hide ((unhide A).ups hb); replace W := hide ((unhide W).ups hb); replace X := hide ((unhide X).ups hb); replace OW := hide ((unhide OW).up hb); replace OX := hide ((unhide OX).up hb); have sz9 := hide (hb.size); replace BB := hide (below_y (unhide BB) hb); clear hb; have RXS := RXS_; clear RXS_; have Xc0_4 := (unhide X).cell 0 rfl; have Xc1_4 := (unhide X).cell 1 rfl; go_wp2_with fail; clear Xc0_4 Xc1_4
  refine (unhide CJ _ _ _ _ _ ⟨LX, unhide HLX, unhide OX⟩ (unhide RXS) (unhide BB)).mono ?_
  rintro e w10 ⟨vG, rfl, ⟨LG, hLG, oG, hapG⟩, hb⟩
  obtain ⟨aG, cG, rfl⟩ := g_shape oG.row
  have NG := hide (OwnBs.base oG); have OG_ := hide oG; have HLG := hide hLG; clear oG hLG; have APG := hide hapG; clear hapG; replace A := hide ((unhide A).ups hb); replace W := hide ((unhide W).ups hb); replace X := hide ((unhide X).ups hb); replace OW := hide ((unhide OW).up hb); replace OX := hide ((unhide OX).up hb); replace RXS := hide ((unhide RXS).up hb); have sz10 := hide (hb.size); replace BB := hide (below_y (unhide BB) hb); clear hb; have OG := OG_; clear OG_
  obtain ⟨w11, hG⟩ : ∃ X, X = w10.alloc (.cells ([.slice aG LG.length cG, .int .i64 z.valid] : List Value).toArray 33) := ⟨_, rfl⟩
  have Gx : HasObj w11 w10.heap.size 33 [.slice aG LG.length cG, .int .i64 z.valid] := by rw [hG]; exact HasObj.new _ _ _
  have hbn : Below w10.heap.size w10 w11 := by rw [hG]; exact (Below.refl _ _).alloc (Nat.le_refl _) _
  have neAG : w.heap.size ≠ w10.heap.size := Nat.ne_of_lt (unhide A).lt
  have neWG : w5.heap.size ≠ w10.heap.size := Nat.ne_of_lt (unhide W).lt
  have neXG : w7.heap.size ≠ w10.heap.size := Nat.ne_of_lt (unhide X).lt
  have loG : w.heap.size ≤ w10.heap.size := (unhide BB).size
  have EG := hG.symm; clear hG; replace A := hide ((unhide A).ups hbn); replace W := hide ((unhide W).ups hbn); replace X := hide ((unhide X).ups hbn); replace OW := hide ((unhide OW).up hbn); replace OX := hide ((unhide OX).up hbn); replace RXS := hide ((unhide RXS).up hbn); replace OG := hide ((unhide OG).up hbn); have sz11 := hide (hbn.size); replace BB := hide (below_y (unhide BB) hbn); clear hbn; have G := hide Gx; clear Gx; have Gc0_5 := (unhide G).cell 0 rfl; have Gc1_5 := (unhide G).cell 1 rfl; have Wc0_6 := (unhide W).cell 0 rfl; have Wc1_6 := (unhide W).cell 1 rfl; go_wp2_with fail; clear Gc0_5 Gc1_5 Wc0_6 Wc1_6 EG
  refine (eqStore_same z LG LW _ _ _ _ _ ((unhide SA)).len ((unhide SA)).each (unhide HLG) (unhide HLW) (unhide OG) (unhide OW)).mono ?_
  rintro e w12 ⟨rfl, hb⟩
  replace A := hide ((unhide A).ups hb); replace W := hide ((unhide W).ups hb); replace X := hide ((unhide X).ups hb); replace G := hide ((unhide G).ups hb); replace OW := hide ((unhide OW).up hb); replace OX := hide ((unhide OX).up hb); replace RXS := hide ((unhide RXS).up hb); replace OG := hide ((unhide OG).up hb); have sz12 := hide (hb.size); replace BB := hide (below_y (unhide BB) hb); clear hb; have Xc0_7 := (unhide X).cell 0 rfl; have Xc1_7 := (unhide X).cell 1 rfl; have Ac0_8 := (unhide A).cell 0 rfl; have Ac1_8 := (unhide A).cell 1 rfl
  go_wp2
  clear Xc0_7 Xc1_7 Ac0_8 Ac1_8
  refine wp_region_held_drew (S := fun w' => w'.cell? ⟨w7.heap.size, 0, none⟩ = some (.slice aX LX.length cX) ∧ w'.cell? ⟨w7.heap.size, 1, none⟩ = some (.int .i64 s.valid) ∧ w'.cell? ⟨w.heap.size, 0, none⟩ = some (.slice a0 s.boxes.length c0) ∧ w'.cell? ⟨w.heap.size, 1, none⟩ = some (.int .i64 s.valid)) (by kernel_rfl) (⟨(unhide X).cell 0 rfl, (unhide X).cell 1 rfl, (unhide A).cell 0 rfl, (unhide A).cell 1 rfl⟩) (fun hHeld => ?_)
  replace A := hide ((unhide A).drew); replace W := hide ((unhide W).drew); replace X := hide ((unhide X).drew); replace G := hide ((unhide G).drew); replace OW := hide ((unhide OW).drew); replace OX := hide ((unhide OX).drew); replace RXS := hide ((unhide RXS).drew); replace OG := hide ((unhide OG).drew); replace BB := hide ((unhide BB).drew)
  have sz13 : Hid (w12.heap.size ≤ w12.drew.heap.size) := Nat.le_refl _
  refine takeVal 0 (some 68) ?_ rfl (by kernel_rfl) (by kernel_rfl) (by kernel_rfl) rfl (fun _ _ _ h => h) (by rfl) (by assumption) ?_ ?_; rotate_left; (intro w hSw; (try dsimp only at hSw); go_simp <;> with_reducible rfl); simp only [Act.put, List.setIfInBounds_toArray, List.set_cons_zero, List.set_cons_succ]
  refine takeVal 1 (some 69) ?_ rfl (by kernel_rfl) (by kernel_rfl) (by kernel_rfl) rfl (fun _ _ _ h => h) (by rfl) (by assumption) ?_ ?_; rotate_left; (intro w hSw; (try dsimp only at hSw); go_simp <;> with_reducible rfl); simp only [Act.put, List.setIfInBounds_toArray, List.set_cons_zero, List.set_cons_succ]
  refine wpAnyH_ready (rs := [2]) (by kernel_rfl) (by simp) ?_
  refine AllReadyH.cons rfl (fun K hK => ?_) AllReadyH.nil
  go_simp
  refine (unhide TS _ (unhide BB)).mono ?_
  rintro e w13 ⟨vC, LC, hLC, rfl, oC, hapC, hb⟩
  obtain ⟨aC, cC, rfl⟩ := g_shape oC.row
  have NC := hide (OwnBs.base oC); have OC_ := hide oC; have HLC := hide hLC; clear oC hLC; have APC := hide hapC; clear hapC; replace A := hide ((unhide A).ups hb); replace W := hide ((unhide W).ups hb); replace X := hide ((unhide X).ups hb); replace G := hide ((unhide G).ups hb); replace OW := hide ((unhide OW).up hb); replace OX := hide ((unhide OX).up hb); replace RXS := hide ((unhide RXS).up hb); replace OG := hide ((unhide OG).up hb); have sz14 := hide (hb.size); replace BB := hide (below_y (unhide BB) hb); clear hb; have OC := OC_; clear OC_; go_wp2_with fail
  refine hK.out _ _ (⟨(unhide X).cell 0 rfl, (unhide X).cell 1 rfl, (unhide A).cell 0 rfl, (unhide A).cell 1 rfl⟩) (fun hHeld2 => ?_)
  clear hK K hHeld; have hHeld := hHeld2; clear hHeld2
  try simp only [Act.put, List.setIfInBounds_toArray, List.set_cons_zero, List.set_cons_succ]
  refine wpAnyH_ready (rs := [3]) (by kernel_rfl) (by simp) ?_
  refine AllReadyH.cons rfl (fun K hK => ?_) AllReadyH.nil
  go_simp
  refine (eqStore_same s LX LC _ _ _ _ _ (unhide SM).a.len (unhide SM).a.each (unhide HLX) (unhide HLC) (unhide OX) (unhide OC)).mono ?_
  rintro e w14 ⟨rfl, hb⟩
  replace A := hide ((unhide A).ups hb); replace W := hide ((unhide W).ups hb); replace X := hide ((unhide X).ups hb); replace G := hide ((unhide G).ups hb); replace OW := hide ((unhide OW).up hb); replace OX := hide ((unhide OX).up hb); replace RXS := hide ((unhide RXS).up hb); replace OG := hide ((unhide OG).up hb); replace OC := hide ((unhide OC).up hb); have sz15 := hide (hb.size); replace BB := hide (below_y (unhide BB) hb); clear hb; go_wp2_with fail
  refine hK.out _ _ (⟨(unhide X).cell 0 rfl, (unhide X).cell 1 rfl, (unhide A).cell 0 rfl, (unhide A).cell 1 rfl⟩) (fun hHeld2 => ?_)
  clear hK K hHeld; have hHeld := hHeld2; clear hHeld2
  try simp only [Act.put, List.setIfInBounds_toArray, List.set_cons_zero, List.set_cons_succ]
  refine takeVal 4 (some 72) ?_ rfl (by kernel_rfl) (by kernel_rfl) (by kernel_rfl) rfl (fun _ _ _ h => h) (by rfl) (by assumption) ?_ ?_; rotate_left; (intro w hSw; (try dsimp only at hSw); go_simp <;> with_reducible rfl); simp only [Act.put, List.setIfInBounds_toArray, List.set_cons_zero, List.set_cons_succ]
  refine wpAnyH_done (by kernel_rfl) ?_ _
  clear OC; clear HLC APC NC; go_wp2_with fail
  refine (unhide TR _ (unhide BB)).mono ?_
  rintro e w15 ⟨vCS, rfl, oCS, hb⟩
  have NCS := hide (fun g (h : Value.ownBlock _ = some g) => World.ownsRow.lt oCS g h)
  have RCS_ := hide oCS; clear oCS; replace A := hide ((unhide A).ups hb); replace W := hide ((unhide W).ups hb); replace X := hide ((unhide X).ups hb); replace G := hide ((unhide G).ups hb); replace OW := hide ((unhide OW).up hb); replace OX := hide ((unhide OX).up hb); replace RXS := hide ((unhide RXS).up hb); replace OG := hide ((unhide OG).up hb); have sz16 := hide (hb.size); replace BB := hide (below_y (unhide BB) hb); clear hb; have RCS := RCS_; clear RCS_; go_wp2_with fail
  refine (eqRangeS_same set _ _ _ _ _ hs (unhide RXS) (unhide RCS)).mono ?_
  rintro e w16 ⟨rfl, hb⟩
  replace A := hide ((unhide A).ups hb); replace W := hide ((unhide W).ups hb); replace X := hide ((unhide X).ups hb); replace G := hide ((unhide G).ups hb); replace OW := hide ((unhide OW).up hb); replace OX := hide ((unhide OX).up hb); replace RXS := hide ((unhide RXS).up hb); replace OG := hide ((unhide OG).up hb); replace RCS := hide ((unhide RCS).up hb); have sz17 := hide (hb.size); replace BB := hide (below_y (unhide BB) hb); clear hb; clear RCS
  have M9 := hide (fun (W : World) h => markStore_any LX (.slice aX LX.length cX)  s.valid w6.heap.size 1 W (((unhide SM).a).sumL (unhide HLX)) (((unhide SM).a).on (unhide HLX)) (by decide) (by decide) (unhide APX) h)
  obtain ⟨KX, hKX⟩ : ∃ K, K = 1 + sumB LX := ⟨_, rfl⟩
  rw [← hKX] at M9
  have jKX : ¬ (KX : Int) < 0 := by omega
  have bKX : KX ≤ 1 + 20971520 := by have q1 := sumB_le LX; have q2 := ((unhide SM).a).sumL (unhide HLX); omega
  have HKX := hide hKX; clear hKX; have Xc0_9 := (unhide X).cell 0 rfl; have Xc1_9 := (unhide X).cell 1 rfl; go_wp2_with fail; clear Xc0_9 Xc1_9
  refine (unhide M9 _ (unhide OX)).mono ?_
  rintro e w17 ⟨rfl, om, hg⟩
  have A_ := hide (hg.obj (unhide A) (fun hh => by rcases hh with hh | ⟨z, hz, hh | hh⟩; exact (unhide A).not_row (by decide) (unhide OX).row hh; exact (unhide A).not_row (by decide) ((unhide OX).each z hz).1 hh; exact (unhide A).not_row (by decide) ((unhide OX).each z hz).2 hh))
  have W_ := hide (hg.obj (unhide W) (fun hh => by rcases hh with hh | ⟨z, hz, hh | hh⟩; exact (unhide W).not_row (by decide) (unhide OX).row hh; exact (unhide W).not_row (by decide) ((unhide OX).each z hz).1 hh; exact (unhide W).not_row (by decide) ((unhide OX).each z hz).2 hh))
  have X_ := hide (hg.obj (unhide X) (fun hh => by rcases hh with hh | ⟨z, hz, hh | hh⟩; exact (unhide X).not_row (by decide) (unhide OX).row hh; exact (unhide X).not_row (by decide) ((unhide OX).each z hz).1 hh; exact (unhide X).not_row (by decide) ((unhide OX).each z hz).2 hh))
  have G_ := hide (hg.obj (unhide G) (fun hh => by rcases hh with hh | ⟨z, hz, hh | hh⟩; exact (unhide G).not_row (by decide) (unhide OX).row hh; exact (unhide G).not_row (by decide) ((unhide OX).each z hz).1 hh; exact (unhide G).not_row (by decide) ((unhide OX).each z hz).2 hh))
  have OW_ := hide ((unhide OW).butB hg (fun g hg1 hg2 => by have q1 := unhide NW g hg1; have q2 := unhide NX g hg2; have sz1_ := unhide sz1; have sz2_ := unhide sz2; have sz3_ := unhide sz3; have sz4_ := unhide sz4; have sz5_ := unhide sz5; have sz6_ := unhide sz6; have sz7_ := unhide sz7; have sz8_ := unhide sz8; have sz9_ := unhide sz9; have sz10_ := unhide sz10; have sz11_ := unhide sz11; have sz12_ := unhide sz12; have sz13_ := unhide sz13; have sz14_ := unhide sz14; have sz15_ := unhide sz15; have sz16_ := unhide sz16; have sz17_ := unhide sz17; omega))
  have RXS_ : Hid (OwnR w8.heap.size w17 (vXS) (set)) := hg.row (unhide RXS) (fun g hg1 hg2 => by have q1 := unhide NXS g hg1; have q2 := unhide NX g hg2; have sz1_ := unhide sz1; have sz2_ := unhide sz2; have sz3_ := unhide sz3; have sz4_ := unhide sz4; have sz5_ := unhide sz5; have sz6_ := unhide sz6; have sz7_ := unhide sz7; have sz8_ := unhide sz8; have sz9_ := unhide sz9; have sz10_ := unhide sz10; have sz11_ := unhide sz11; have sz12_ := unhide sz12; have sz13_ := unhide sz13; have sz14_ := unhide sz14; have sz15_ := unhide sz15; have sz16_ := unhide sz16; have sz17_ := unhide sz17; omega)
  have OG_ := hide ((unhide OG).butB hg (fun g hg1 hg2 => by have q1 := unhide NG g hg1; have q2 := unhide NX g hg2; have sz1_ := unhide sz1; have sz2_ := unhide sz2; have sz3_ := unhide sz3; have sz4_ := unhide sz4; have sz5_ := unhide sz5; have sz6_ := unhide sz6; have sz7_ := unhide sz7; have sz8_ := unhide sz8; have sz9_ := unhide sz9; have sz10_ := unhide sz10; have sz11_ := unhide sz11; have sz12_ := unhide sz12; have sz13_ := unhide sz13; have sz14_ := unhide sz14; have sz15_ := unhide sz15; have sz16_ := unhide sz16; have sz17_ := unhide sz17; omega))
  have BB_ : Hid (Below w.heap.size w w17) := (unhide BB).trans (hg.toBelow (unhide BB).size (fun g hh => by have q2 := unhide NX g hh; have sz1_ := unhide sz1; have sz2_ := unhide sz2; have sz3_ := unhide sz3; have sz4_ := unhide sz4; have sz5_ := unhide sz5; have sz6_ := unhide sz6; have sz7_ := unhide sz7; have sz8_ := unhide sz8; have sz9_ := unhide sz9; have sz10_ := unhide sz10; have sz11_ := unhide sz11; have sz12_ := unhide sz12; have sz13_ := unhide sz13; have sz14_ := unhide sz14; have sz15_ := unhide sz15; have sz16_ := unhide sz16; have sz17_ := unhide sz17; omega))
  have sz18 := hide (hg.size); replace A := A_; clear A_; replace W := W_; clear W_; replace X := X_; clear X_; replace G := G_; clear G_; replace OW := OW_; clear OW_; replace RXS := RXS_; clear RXS_; replace OG := OG_; clear OG_; replace BB := BB_; clear BB_; clear OX M9; have OX := hide om; clear om hg; clear OX; clear X; go_wp2_with fail
  refine (markR_at set _ _ _ _ (by omega) (by omega) hs (unhide RXS)).mono ?_
  rintro e w18 ⟨rfl, om, hg0⟩
  have hg := GrownBut.of hg0
  have A_ := hide (hg.obj (unhide A) (fun hh => (unhide A).not_row (by decide) (unhide RXS) hh))
  have W_ := hide (hg.obj (unhide W) (fun hh => (unhide W).not_row (by decide) (unhide RXS) hh))
  have G_ := hide (hg.obj (unhide G) (fun hh => (unhide G).not_row (by decide) (unhide RXS) hh))
  have OW_ := hide ((unhide OW).butB hg (fun g hg1 hg2 => by have q1 := unhide NW g hg1; have q2 := unhide NXS g hg2; have sz1_ := unhide sz1; have sz2_ := unhide sz2; have sz3_ := unhide sz3; have sz4_ := unhide sz4; have sz5_ := unhide sz5; have sz6_ := unhide sz6; have sz7_ := unhide sz7; have sz8_ := unhide sz8; have sz9_ := unhide sz9; have sz10_ := unhide sz10; have sz11_ := unhide sz11; have sz12_ := unhide sz12; have sz13_ := unhide sz13; have sz14_ := unhide sz14; have sz15_ := unhide sz15; have sz16_ := unhide sz16; have sz17_ := unhide sz17; have sz18_ := unhide sz18; omega))
  have OG_ := hide ((unhide OG).butB hg (fun g hg1 hg2 => by have q1 := unhide NG g hg1; have q2 := unhide NXS g hg2; have sz1_ := unhide sz1; have sz2_ := unhide sz2; have sz3_ := unhide sz3; have sz4_ := unhide sz4; have sz5_ := unhide sz5; have sz6_ := unhide sz6; have sz7_ := unhide sz7; have sz8_ := unhide sz8; have sz9_ := unhide sz9; have sz10_ := unhide sz10; have sz11_ := unhide sz11; have sz12_ := unhide sz12; have sz13_ := unhide sz13; have sz14_ := unhide sz14; have sz15_ := unhide sz15; have sz16_ := unhide sz16; have sz17_ := unhide sz17; have sz18_ := unhide sz18; omega))
  have BB_ : Hid (Below w.heap.size w w18) := (unhide BB).trans (hg.toBelow (unhide BB).size (fun g hh => by have q2 := unhide NXS g hh; have sz1_ := unhide sz1; have sz2_ := unhide sz2; have sz3_ := unhide sz3; have sz4_ := unhide sz4; have sz5_ := unhide sz5; have sz6_ := unhide sz6; have sz7_ := unhide sz7; have sz8_ := unhide sz8; have sz9_ := unhide sz9; have sz10_ := unhide sz10; have sz11_ := unhide sz11; have sz12_ := unhide sz12; have sz13_ := unhide sz13; have sz14_ := unhide sz14; have sz15_ := unhide sz15; have sz16_ := unhide sz16; have sz17_ := unhide sz17; have sz18_ := unhide sz18; omega))
  have sz19 := hide (hg.size); replace A := A_; clear A_; replace W := W_; clear W_; replace G := G_; clear G_; replace OW := OW_; clear OW_; replace OG := OG_; clear OG_; replace BB := BB_; clear BB_; clear om hg hg0; clear RXS
  have jx : ¬ (KX : Int) + (set.length : Int) * 2 < 0 := by omega
  have Gc0_10 := (unhide G).cell 0 rfl; have Gc1_10 := (unhide G).cell 1 rfl; have Wc0_11 := (unhide W).cell 0 rfl; have Wc1_11 := (unhide W).cell 1 rfl; go_wp2_with fail; clear Gc0_10 Gc1_10 Wc0_11 Wc1_11
  refine (eqStore_same z LG LW _ _ _ _ _ ((unhide SA)).len ((unhide SA)).each (unhide HLG) (unhide HLW) (unhide OG) (unhide OW)).mono ?_
  rintro e w19 ⟨rfl, hb⟩
  replace A := hide ((unhide A).ups hb); replace W := hide ((unhide W).ups hb); replace G := hide ((unhide G).ups hb); replace OW := hide ((unhide OW).up hb); replace OG := hide ((unhide OG).up hb); have sz20 := hide (hb.size); replace BB := hide (below_y (unhide BB) hb); clear hb
  have M9 := hide (fun (W : World) h => markStore_any LG (.slice aG LG.length cG)  z.valid w9.heap.size 1 W (((unhide SA)).sumL (unhide HLG)) (((unhide SA)).on (unhide HLG)) (by decide) (by decide) (unhide APG) h)
  obtain ⟨KG, hKG⟩ : ∃ K, K = 1 + sumB LG := ⟨_, rfl⟩
  rw [← hKG] at M9
  have jKG : ¬ (KG : Int) < 0 := by omega
  have bKG : KG ≤ 1 + 20971520 := by have q1 := sumB_le LG; have q2 := ((unhide SA)).sumL (unhide HLG); omega
  have HKG := hide hKG; clear hKG; have Gc0_12 := (unhide G).cell 0 rfl; have Gc1_12 := (unhide G).cell 1 rfl; go_wp2_with fail; clear Gc0_12 Gc1_12
  refine (unhide M9 _ (unhide OG)).mono ?_
  rintro e w20 ⟨rfl, om, hg⟩
  have A_ := hide (hg.obj (unhide A) (fun hh => by rcases hh with hh | ⟨z, hz, hh | hh⟩; exact (unhide A).not_row (by decide) (unhide OG).row hh; exact (unhide A).not_row (by decide) ((unhide OG).each z hz).1 hh; exact (unhide A).not_row (by decide) ((unhide OG).each z hz).2 hh))
  have W_ := hide (hg.obj (unhide W) (fun hh => by rcases hh with hh | ⟨z, hz, hh | hh⟩; exact (unhide W).not_row (by decide) (unhide OG).row hh; exact (unhide W).not_row (by decide) ((unhide OG).each z hz).1 hh; exact (unhide W).not_row (by decide) ((unhide OG).each z hz).2 hh))
  have G_ := hide (hg.obj (unhide G) (fun hh => by rcases hh with hh | ⟨z, hz, hh | hh⟩; exact (unhide G).not_row (by decide) (unhide OG).row hh; exact (unhide G).not_row (by decide) ((unhide OG).each z hz).1 hh; exact (unhide G).not_row (by decide) ((unhide OG).each z hz).2 hh))
  have OW_ := hide ((unhide OW).butB hg (fun g hg1 hg2 => by have q1 := unhide NW g hg1; have q2 := unhide NG g hg2; have sz1_ := unhide sz1; have sz2_ := unhide sz2; have sz3_ := unhide sz3; have sz4_ := unhide sz4; have sz5_ := unhide sz5; have sz6_ := unhide sz6; have sz7_ := unhide sz7; have sz8_ := unhide sz8; have sz9_ := unhide sz9; have sz10_ := unhide sz10; have sz11_ := unhide sz11; have sz12_ := unhide sz12; have sz13_ := unhide sz13; have sz14_ := unhide sz14; have sz15_ := unhide sz15; have sz16_ := unhide sz16; have sz17_ := unhide sz17; have sz18_ := unhide sz18; have sz19_ := unhide sz19; have sz20_ := unhide sz20; omega))
  have BB_ : Hid (Below w.heap.size w w20) := (unhide BB).trans (hg.toBelow (unhide BB).size (fun g hh => by have q2 := unhide NG g hh; have sz1_ := unhide sz1; have sz2_ := unhide sz2; have sz3_ := unhide sz3; have sz4_ := unhide sz4; have sz5_ := unhide sz5; have sz6_ := unhide sz6; have sz7_ := unhide sz7; have sz8_ := unhide sz8; have sz9_ := unhide sz9; have sz10_ := unhide sz10; have sz11_ := unhide sz11; have sz12_ := unhide sz12; have sz13_ := unhide sz13; have sz14_ := unhide sz14; have sz15_ := unhide sz15; have sz16_ := unhide sz16; have sz17_ := unhide sz17; have sz18_ := unhide sz18; have sz19_ := unhide sz19; have sz20_ := unhide sz20; omega))
  have sz21 := hide (hg.size); replace A := A_; clear A_; replace W := W_; clear W_; replace G := G_; clear G_; replace OW := OW_; clear OW_; replace BB := BB_; clear BB_; clear OG M9; have OG := hide om; clear om hg
  have M9 := hide (fun (W : World) h => heldStore_any LG (.slice aG LG.length cG)  z.valid w9.heap.size 1 W (((unhide SA)).sumL (unhide HLG)) (((unhide SA)).on (unhide HLG)) (by decide) (by decide) h)
  rw [← unhide HKG] at M9
  have Gc0_13 := (unhide G).cell 0 rfl; have Gc1_13 := (unhide G).cell 1 rfl; go_wp2_with fail; clear Gc0_13 Gc1_13
  refine (unhide M9 _ (unhide OG)).mono ?_
  rintro e w21 ⟨rfl, hb⟩
  replace A := hide ((unhide A).ups hb); replace W := hide ((unhide W).ups hb); replace G := hide ((unhide G).ups hb); replace OW := hide ((unhide OW).up hb); replace OG := hide ((unhide OG).up hb); have sz22 := hide (hb.size); replace BB := hide (below_y (unhide BB) hb); clear hb; clear M9; have Ac0_14 := (unhide A).cell 0 rfl; have Ac1_14 := (unhide A).cell 1 rfl; go_wp2_with fail; clear Ac0_14 Ac1_14
  refine (unhide TS _ (unhide BB)).mono ?_
  rintro e w22 ⟨vQ, LQ, hLQ, rfl, oQ, hapQ, hb⟩
  obtain ⟨aQ, cQ, rfl⟩ := g_shape oQ.row
  have NQ := hide (OwnBs.base oQ); have OQ_ := hide oQ; have HLQ := hide hLQ; clear oQ hLQ; have APQ := hide hapQ; clear hapQ; replace A := hide ((unhide A).ups hb); replace W := hide ((unhide W).ups hb); replace G := hide ((unhide G).ups hb); replace OW := hide ((unhide OW).up hb); replace OG := hide ((unhide OG).up hb); have sz23 := hide (hb.size); replace BB := hide (below_y (unhide BB) hb); clear hb; have OQ := OQ_; clear OQ_; go_wp2_with fail
  refine (unhide TR _ (unhide BB)).mono ?_
  rintro e w23 ⟨vQS, rfl, oQS, hb⟩
  have NQS := hide (fun g (h : Value.ownBlock _ = some g) => World.ownsRow.lt oQS g h)
  have RQS_ := hide oQS; clear oQS; replace A := hide ((unhide A).ups hb); replace W := hide ((unhide W).ups hb); replace G := hide ((unhide G).ups hb); replace OW := hide ((unhide OW).up hb); replace OG := hide ((unhide OG).up hb); replace OQ := hide ((unhide OQ).up hb); have sz24 := hide (hb.size); replace BB := hide (below_y (unhide BB) hb); clear hb; have RQS := RQS_; clear RQS_; go_wp2_with fail
  refine (unhide CJ _ _ _ _ _ ⟨LQ, unhide HLQ, unhide OQ⟩ (unhide RQS) (unhide BB)).mono ?_
  rintro e w24 ⟨vH, rfl, ⟨LH, hLH, oH, hapH⟩, hb⟩
  obtain ⟨aH, cH, rfl⟩ := g_shape oH.row
  have NH := hide (OwnBs.base oH); have OH_ := hide oH; have HLH := hide hLH; clear oH hLH; have APH := hide hapH; clear hapH; replace A := hide ((unhide A).ups hb); replace W := hide ((unhide W).ups hb); replace G := hide ((unhide G).ups hb); replace OW := hide ((unhide OW).up hb); replace OG := hide ((unhide OG).up hb); replace OQ := hide ((unhide OQ).up hb); replace RQS := hide ((unhide RQS).up hb); have sz25 := hide (hb.size); replace BB := hide (below_y (unhide BB) hb); clear hb; have OH := OH_; clear OH_; clear OQ; clear RQS
  obtain ⟨w25, hH⟩ : ∃ X, X = w24.alloc (.cells ([.slice aH LH.length cH, .int .i64 z.valid] : List Value).toArray 33) := ⟨_, rfl⟩
  have Hx : HasObj w25 w24.heap.size 33 [.slice aH LH.length cH, .int .i64 z.valid] := by rw [hH]; exact HasObj.new _ _ _
  have hbn : Below w24.heap.size w24 w25 := by rw [hH]; exact (Below.refl _ _).alloc (Nat.le_refl _) _
  have neAH : w.heap.size ≠ w24.heap.size := Nat.ne_of_lt (unhide A).lt
  have neWH : w5.heap.size ≠ w24.heap.size := Nat.ne_of_lt (unhide W).lt
  have neGH : w10.heap.size ≠ w24.heap.size := Nat.ne_of_lt (unhide G).lt
  have loH : w.heap.size ≤ w24.heap.size := (unhide BB).size
  have EH := hH.symm; clear hH; replace A := hide ((unhide A).ups hbn); replace W := hide ((unhide W).ups hbn); replace G := hide ((unhide G).ups hbn); replace OW := hide ((unhide OW).up hbn); replace OG := hide ((unhide OG).up hbn); replace OH := hide ((unhide OH).up hbn); have sz26 := hide (hbn.size); replace BB := hide (below_y (unhide BB) hbn); clear hbn; have H := hide Hx; clear Hx; have Hc0_15 := (unhide H).cell 0 rfl; have Hc1_15 := (unhide H).cell 1 rfl; have Wc0_16 := (unhide W).cell 0 rfl; have Wc1_16 := (unhide W).cell 1 rfl; go_wp2_with fail; clear Hc0_15 Hc1_15 Wc0_16 Wc1_16 EH
  refine (eqStore_same z LH LW _ _ _ _ _ ((unhide SA)).len ((unhide SA)).each (unhide HLH) (unhide HLW) (unhide OH) (unhide OW)).mono ?_
  rintro e w26 ⟨rfl, hb⟩
  replace A := hide ((unhide A).ups hb); replace W := hide ((unhide W).ups hb); replace G := hide ((unhide G).ups hb); replace H := hide ((unhide H).ups hb); replace OW := hide ((unhide OW).up hb); replace OG := hide ((unhide OG).up hb); replace OH := hide ((unhide OH).up hb); have sz27 := hide (hb.size); replace BB := hide (below_y (unhide BB) hb); clear hb
  have M9 := hide (fun (W : World) h => heldStore_any LG (.slice aG LG.length cG)  z.valid w9.heap.size 1 W (((unhide SA)).sumL (unhide HLG)) (((unhide SA)).on (unhide HLG)) (by decide) (by decide) h)
  rw [← unhide HKG] at M9
  have Gc0_17 := (unhide G).cell 0 rfl; have Gc1_17 := (unhide G).cell 1 rfl; go_wp2_with fail; clear Gc0_17 Gc1_17
  refine (unhide M9 _ (unhide OG)).mono ?_
  rintro e w27 ⟨rfl, hb⟩
  replace A := hide ((unhide A).ups hb); replace W := hide ((unhide W).ups hb); replace G := hide ((unhide G).ups hb); replace H := hide ((unhide H).ups hb); replace OW := hide ((unhide OW).up hb); replace OG := hide ((unhide OG).up hb); replace OH := hide ((unhide OH).up hb); have sz28 := hide (hb.size); replace BB := hide (below_y (unhide BB) hb); clear hb; clear M9
  go_wp2
  go_ret
  exact ⟨rfl, unhide BB⟩
end Go.Proofs.Ytfemplekibpfoac
