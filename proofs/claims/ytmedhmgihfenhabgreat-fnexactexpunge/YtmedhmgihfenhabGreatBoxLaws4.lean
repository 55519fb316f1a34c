/- The walk of FnExactExpunge, over whatever contract of the program's own function. Made by gen_boxlaws4.py. -/
import Derived.Test.YtmedhmgihfenhabGreatBoxOkS
import Derived.Test.YtmedhmgihfenhabGreatExpungePlain
import Derived.Test.YtmedhmgihfenhabGreatBoxA
import Derived.Test.YtmedhmgihfenhabGreatRangeMarks
import Derived.Test.YtmedhmgihfenhabGreatRegA
namespace Go.Proofs.YtmedhmgihfenhabGreat
open Go.RowKit
open Plain
set_option linter.unusedVariables false

theorem OwnR.drew {B : Nat} {W : World} {v : Value} {l : List Rg} (h : OwnR B W v l) : OwnR B W.drew v l := h
theorem markR_at (l : List Rg) (v : Value) (B : Nat) (w : World) (k : Int) (h0 : 0 ≤ k) (h1 : k ≤ 100000000) (hs : l.length ≤ 1048576) (h : OwnR B w v l) :
    Calls Tryz.prog 43 #[v, .int .i64 k] w fun e w' => e = .returned (.int .i64 (k + (l.length : Int) * 2)) ∧ OwnR B w' v (marksR k.toNat l.length) ∧ w.grownBy w' v.ownBlock := by
  obtain ⟨n, rfl⟩ : ∃ n : Nat, k = (n : Int) := ⟨k.toNat, by omega⟩
  have := markRangeS_any l v B n w hs (by omega) h
  rw [Int.toNat_natCast]
  refine this.mono fun e w' ⟨h1, h2, h3⟩ => ⟨?_, h2, h3⟩
  rw [h1]
  simp
theorem heldR_at (n : Nat) (v : Value) (B : Nat) (w : World) (k : Int) (h0 : 0 ≤ k) (h1 : k ≤ 100000000) (hs : n ≤ 1048576) (h : OwnR B w v (marksR k.toNat n)) :
    Calls Tryz.prog 45 #[v, .int .i64 k] w fun e w' => e = .returned (.int .i64 (k + (n : Int) * 2)) ∧ w' = w := by
  obtain ⟨q, rfl⟩ : ∃ n : Nat, k = (n : Int) := ⟨k.toNat, by omega⟩
  rw [Int.toNat_natCast] at h
  refine (heldRangeS_any n v B q w hs (by omega) h).mono fun e w' ⟨h1, h2⟩ => ⟨?_, h2⟩
  rw [h1]
  simp
namespace Plain
theorem expV_len (b : Bx) (s : List Rg) (h1 : b.mails.length ≤ 1048576) (h2 : b.tombs.length ≤ 1048576) : (expV b s).1.mails.length ≤ 1048576 ∧ (expV b s).1.tombs.length ≤ 1048576 ∧ (expV b s).2.length ≤ 1048576 := by
  unfold expV
  split
  · rename_i x
    have hp := head_parts (boxOk_iff.1 x.2.2).1
    have hb : boxOk b = true := by have := x.1; rw [Bool.and_eq_true] at this; exact this.1
    obtain ⟨g1, g2⟩ := goneM_right (s := s) hb
    have hu := (uidsV_inv _ (goneM s b.mails) rfl (by omega) g2).2.1
    exact ⟨Nat.le_trans hp.2.2.2.2.1 (by decide), Nat.le_trans hp.2.2.2.2.2.1 (by decide), by show (uidsV (goneM s b.mails)).length ≤ _; omega⟩
  · exact ⟨h1, h2, by simp⟩
end Plain

set_option maxHeartbeats 16000000 in
set_option maxRecDepth 100000 in
theorem FnExactExpunge_walk (b : Bx) (a1 a2 : Option Addr) (c1 c2 : Nat) (a3 : Option Addr) (c3 : Nat) (s : List Rg) (w : World) (h : ArgBx w.heap.size w a1 a2 b) (m3 : s.length ≤ maxLen) (h3 : ArgR w.heap.size w a3 s)
    (CI : ∀ (m t vs : Value) (B B2 : Nat) (W : World), SmallBx 1048576 b → s.length ≤ 1048576 → OwnBx B W m t b → OwnR B2 W vs s → Below w.heap.size w W → Calls Tryz.prog 39 #[boxV b m t, vs] W fun e w' => ∃ m' t' vD, e = .returned (.tuple #[boxV (expV b s).1 m' t', vD]) ∧ OwnBx W.heap.size w' m' t' (expV b s).1 ∧ OwnR W.heap.size w' vD (expV b s).2 ∧ Below W.heap.size W w')
    (SI : ∀ (m t vs : Value) (B B2 : Nat) (W : World), SmallBx 1048576 b → s.length ≤ 1048576 → OwnBx B W m t b → OwnR B2 W vs s → Calls Tryz.prog 36 #[boxV b m t, vs] W fun e w' => ∃ m' t' vD, e = .returned (.tuple #[boxV (expV b s).1 m' t', vD]) ∧ OwnBx W.heap.size w' m' t' (expV b s).1 ∧ OwnR W.heap.size w' vD (expV b s).2 ∧ Below W.heap.size W w') :
    Calls Tryz.prog 7 #[.agg #[.string b.name, .int .i64 b.valid, .int .i64 b.next, .int .i64 b.mod, .slice a1 b.mails.length c1, .slice a2 b.tombs.length c2, .int .i64 b.hor], .slice a3 s.length c3] w fun e w' => e = .returned (.bool true) ∧ Below w.heap.size w w' := by
  have BB := hide (Below.refl w.heap.size w)
  have HA := hide h
  have CH := hide CI
  have H3 := hide h3
  have SI := hide SI
  clear h h3 CI
  obtain ⟨w1, hA⟩ : ∃ X, X = w.alloc (.cells ([.string b.name, .int .i64 b.valid, .int .i64 b.next, .int .i64 b.mod, .slice a1 b.mails.length c1, .slice a2 b.tombs.length c2, .int .i64 b.hor] : List Value).toArray 60) := ⟨_, rfl⟩
  have Ax : HasObj w1 w.heap.size 60 [.string b.name, .int .i64 b.valid, .int .i64 b.next, .int .i64 b.mod, .slice a1 b.mails.length c1, .slice a2 b.tombs.length c2, .int .i64 b.hor] := by rw [hA]; exact HasObj.new _ _ _
  have hbn : Below w.heap.size w w1 := by rw [hA]; exact (Below.refl _ _).alloc (Nat.le_refl _) _
  have EA := hA.symm
  clear hA
  have sz1 := hide hbn.size
  have BB_ := hide (below_y (unhide BB) hbn)
  clear BB
  have BB := BB_
  clear BB_ hbn
  have A := hide Ax
  clear Ax
  have SZ := hide (szBox_any b a1 a2 c1 c2 w1 ((unhide HA).up (unhide BB)))
  have Ac0 := (unhide A).cell 0 rfl
  have Ac1 := (unhide A).cell 1 rfl
  have Ac2 := (unhide A).cell 2 rfl
  have Ac3 := (unhide A).cell 3 rfl
  have Ac4 := (unhide A).cell 4 rfl
  have Ac5 := (unhide A).cell 5 rfl
  have Ac6 := (unhide A).cell 6 rfl
  go_enter Tryz.func7, Tryz.ntmps7
  go_wp2_with fail
  clear Ac0 Ac1 Ac2 Ac3 Ac4 Ac5 Ac6
  clear EA
  refine (unhide SZ).mono ?_
  rintro e wz ⟨⟨q, rfl, hq⟩, hb⟩
  have A_ := hide ((unhide A).ups hb)
  clear A
  have A := A_
  clear A_
  have sz2 := hide hb.size
  have BB_ := hide (below_y (unhide BB) hb)
  clear BB
  have BB := BB_
  clear BB_ hb
  clear SZ
  rcases hq with rfl | ⟨q, rfl, hq, hsm⟩
  · go_wp2
    go_ret
    exact ⟨rfl, unhide BB⟩
  have i1 : ¬ (q : Int) < 0 := by omega
  have SM := hide hsm
  clear hsm
  go_wp2_with fail
  refine (szRangeS_any a3 c3 s.length q _ hq m3).mono ?_
  rintro e wy ⟨⟨r, rfl, hr⟩, hw⟩
  subst wy
  rcases hr with rfl | ⟨r, rfl, hr, hsl⟩
  · go_wp2
    go_ret
    exact ⟨rfl, unhide BB⟩
  have i2 : ¬ (r : Int) < 0 := by omega
  have hs : s.length ≤ 1048576 := by omega
  clear hsl
  have TB := hide (fun (W : World) (hb : Below w.heap.size w W) => toBox_any b a1 a2 c1 c2 W (unhide SM) ((unhide HA).up hb))
  have TR := hide (fun (W : World) (hb : Below w.heap.size w W) => toRangeS_any a3 c3 s W hs ((unhide H3).up hb))
  have AL := hide (expV_len b s (unhide SM).2.1.1 (unhide SM).2.2)
  have SA := hide (fun (m t vs : Value) (B B2 : Nat) (W : World) (h : OwnBx B W m t b) (h2 : OwnR B2 W vs s) => unhide SI m t vs B B2 W (unhide SM) hs h h2)
  have CJ := hide (fun (m t vs : Value) (B B2 : Nat) (W : World) (h : OwnBx B W m t b) (h2 : OwnR B2 W vs s) (hb : Below w.heap.size w W) => unhide CH m t vs B B2 W (unhide SM) hs h h2 hb)
  clear CH SI
  generalize expV b s = an at *
  obtain ⟨b2, lD⟩ := an
  simp only at SA CJ AL
  have Ac0 := (unhide A).cell 0 rfl
  have Ac1 := (unhide A).cell 1 rfl
  have Ac2 := (unhide A).cell 2 rfl
  have Ac3 := (unhide A).cell 3 rfl
  have Ac4 := (unhide A).cell 4 rfl
  have Ac5 := (unhide A).cell 5 rfl
  have Ac6 := (unhide A).cell 6 rfl
  go_wp2_with fail
  clear Ac0 Ac1 Ac2 Ac3 Ac4 Ac5 Ac6
  refine (unhide TB _ (unhide BB)).mono ?_
  rintro e w3 ⟨mP, tP, rfl, oP, hb⟩
  obtain ⟨amP, cmP, rfl⟩ := g_shape oP.1
  obtain ⟨atP, ctP, rfl⟩ := g_shape oP.2
  have NP := hide (OwnBx.base oP)
  have OP := hide oP
  clear oP
  have A_ := hide ((unhide A).ups hb)
  clear A
  have A := A_
  clear A_
  have sz3 := hide hb.size
  have BB_ := hide (below_y (unhide BB) hb)
  clear BB
  have BB := BB_
  clear BB_ hb
  go_wp2_with fail
  refine (unhide TR _ (unhide BB)).mono ?_
  rintro e w4 ⟨vPS, rfl, oPS, hb⟩
  obtain ⟨aPS, cPS, rfl⟩ := g_shape oPS
  have NPS := hide (fun g (h : Value.ownBlock _ = some g) => World.ownsRow.lt oPS g h)
  have RPS := hide oPS
  clear oPS
  have A_ := hide ((unhide A).ups hb)
  clear A
  have A := A_
  clear A_
  have OP_ := hide ((unhide OP).up hb)
  clear OP
  have OP := OP_
  clear OP_
  have sz4 := hide hb.size
  have BB_ := hide (below_y (unhide BB) hb)
  clear BB
  have BB := BB_
  clear BB_ hb
  go_wp2_with fail
  refine (unhide SA _ _ _ _ _ _ (unhide OP) (unhide RPS)).mono ?_
  rintro e w5 ⟨mW, tW, vWD, rfl, oW, oWD, hb⟩
  obtain ⟨amW, cmW, rfl⟩ := g_shape oW.1
  obtain ⟨atW, ctW, rfl⟩ := g_shape oW.2
  obtain ⟨aWD, cWD, rfl⟩ := g_shape oWD
  have NW := hide (OwnBx.base oW)
  have OW := hide oW
  clear oW
  have NWD := hide (fun g (h : Value.ownBlock _ = some g) => World.ownsRow.lt oWD g h)
  have RWD := hide oWD
  clear oWD
  have RPS_ := hide ((unhide RPS).up hb)
  clear RPS
  have RPS := RPS_
  clear RPS_
  have A_ := hide ((unhide A).ups hb)
  clear A
  have A := A_
  clear A_
  have OP_ := hide ((unhide OP).up hb)
  clear OP
  have OP := OP_
  clear OP_
  have sz5 := hide hb.size
  have BB_ := hide (below_y (unhide BB) hb)
  clear BB
  have BB := BB_
  clear BB_ hb
  clear OP
  clear RPS
  obtain ⟨w6, hW⟩ : ∃ X, X = w5.alloc (.cells ([.string b2.name, .int .i64 b2.valid, .int .i64 b2.next, .int .i64 b2.mod, .slice amW b2.mails.length cmW, .slice atW b2.tombs.length ctW, .int .i64 b2.hor] : List Value).toArray 33) := ⟨_, rfl⟩
  have Wx : HasObj w6 w5.heap.size 33 [.string b2.name, .int .i64 b2.valid, .int .i64 b2.next, .int .i64 b2.mod, .slice amW b2.mails.length cmW, .slice atW b2.tombs.length ctW, .int .i64 b2.hor] := by rw [hW]; exact HasObj.new _ _ _
  have hbn : Below w5.heap.size w5 w6 := by rw [hW]; exact (Below.refl _ _).alloc (Nat.le_refl _) _
  have EW := hW.symm
  clear hW
  have RWD_ := hide ((unhide RWD).up hbn)
  clear RWD
  have RWD := RWD_
  clear RWD_
  have A_ := hide ((unhide A).ups hbn)
  clear A
  have A := A_
  clear A_
  have OW_ := hide ((unhide OW).up hbn)
  clear OW
  have OW := OW_
  clear OW_
  have sz6 := hide hbn.size
  have BB_ := hide (below_y (unhide BB) hbn)
  clear BB
  have BB := BB_
  clear BB_ hbn
  have W := hide Wx
  clear Wx
  have Ac0 := (unhide A).cell 0 rfl
  have Ac1 := (unhide A).cell 1 rfl
  have Ac2 := (unhide A).cell 2 rfl
  have Ac3 := (unhide A).cell 3 rfl
  have Ac4 := (unhide A).cell 4 rfl
  have Ac5 := (unhide A).cell 5 rfl
  have Ac6 := (unhide A).cell 6 rfl
  go_wp2_with fail
  clear Ac0 Ac1 Ac2 Ac3 Ac4 Ac5 Ac6
  refine (unhide TB _ (unhide BB)).mono ?_
  rintro e w8 ⟨mX, tX, rfl, oX, hb⟩
  obtain ⟨amX, cmX, rfl⟩ := g_shape oX.1
  obtain ⟨atX, ctX, rfl⟩ := g_shape oX.2
  have NX := hide (OwnBx.base oX)
  have OX := hide oX
  clear oX
  have RWD_ := hide ((unhide RWD).up hb)
  clear RWD
  have RWD := RWD_
  clear RWD_
  have A_ := hide ((unhide A).ups hb)
  clear A
  have A := A_
  clear A_
  have W_ := hide ((unhide W).ups hb)
  clear W
  have W := W_
  clear W_
  have OW_ := hide ((unhide OW).up hb)
  clear OW
  have OW := OW_
  clear OW_
  have sz7 := hide hb.size
  have BB_ := hide (below_y (unhide BB) hb)
  clear BB
  have BB := BB_
  clear BB_ hb
  clear EW
  obtain ⟨w9, hX⟩ : ∃ X, X = w8.alloc (.cells ([.string b.name, .int .i64 b.valid, .int .i64 b.next, .int .i64 b.mod, .slice amX b.mails.length cmX, .slice atX b.tombs.length ctX, .int .i64 b.hor] : List Value).toArray 33) := ⟨_, rfl⟩
  have Xx : HasObj w9 w8.heap.size 33 [.string b.name, .int .i64 b.valid, .int .i64 b.next, .int .i64 b.mod, .slice amX b.mails.length cmX, .slice atX b.tombs.length ctX, .int .i64 b.hor] := by rw [hX]; exact HasObj.new _ _ _
  have hbn : Below w8.heap.size w8 w9 := by rw [hX]; exact (Below.refl _ _).alloc (Nat.le_refl _) _
  have EX := hX.symm
  clear hX
  have RWD_ := hide ((unhide RWD).up hbn)
  clear RWD
  have RWD := RWD_
  clear RWD_
  have A_ := hide ((unhide A).ups hbn)
  clear A
  have A := A_
  clear A_
  have W_ := hide ((unhide W).ups hbn)
  clear W
  have W := W_
  clear W_
  have OW_ := hide ((unhide OW).up hbn)
  clear OW
  have OW := OW_
  clear OW_
  have OX_ := hide ((unhide OX).up hbn)
  clear OX
  have OX := OX_
  clear OX_
  have sz8 := hide hbn.size
  have BB_ := hide (below_y (unhide BB) hbn)
  clear BB
  have BB := BB_
  clear BB_ hbn
  have X := hide Xx
  clear Xx
  go_wp2_with fail
  refine (unhide TR _ (unhide BB)).mono ?_
  rintro e w10 ⟨vXS, rfl, oXS, hb⟩
  obtain ⟨aXS, cXS, rfl⟩ := g_shape oXS
  have NXS := hide (fun g (h : Value.ownBlock _ = some g) => World.ownsRow.lt oXS g h)
  have RXS := hide oXS
  clear oXS
  have RWD_ := hide ((unhide RWD).up hb)
  clear RWD
  have RWD := RWD_
  clear RWD_
  have A_ := hide ((unhide A).ups hb)
  clear A
  have A := A_
  clear A_
  have W_ := hide ((unhide W).ups hb)
  clear W
  have W := W_
  clear W_
  have X_ := hide ((unhide X).ups hb)
  clear X
  have X := X_
  clear X_
  have OW_ := hide ((unhide OW).up hb)
  clear OW
  have OW := OW_
  clear OW_
  have OX_ := hide ((unhide OX).up hb)
  clear OX
  have OX := OX_
  clear OX_
  have sz9 := hide hb.size
  have BB_ := hide (below_y (unhide BB) hb)
  clear BB
  have BB := BB_
  clear BB_ hb
  clear EX
  have Xc0 := (unhide X).cell 0 rfl
  have Xc1 := (unhide X).cell 1 rfl
  have Xc2 := (unhide X).cell 2 rfl
  have Xc3 := (unhide X).cell 3 rfl
  have Xc4 := (unhide X).cell 4 rfl
  have Xc5 := (unhide X).cell 5 rfl
  have Xc6 := (unhide X).cell 6 rfl
  go_wp2_with fail
  clear Xc0 Xc1 Xc2 Xc3 Xc4 Xc5 Xc6
  refine (unhide CJ _ _ _ _ _ _ (unhide OX) (unhide RXS) (unhide BB)).mono ?_
  rintro e w11 ⟨mG, tG, vGD, rfl, oG, oGD, hb⟩
  obtain ⟨amG, cmG, rfl⟩ := g_shape oG.1
  obtain ⟨atG, ctG, rfl⟩ := g_shape oG.2
  obtain ⟨aGD, cGD, rfl⟩ := g_shape oGD
  have NG := hide (OwnBx.base oG)
  have OG := hide oG
  clear oG
  have NGD := hide (fun g (h : Value.ownBlock _ = some g) => World.ownsRow.lt oGD g h)
  have RGD := hide oGD
  clear oGD
  have RWD_ := hide ((unhide RWD).up hb)
  clear RWD
  have RWD := RWD_
  clear RWD_
  have RXS_ := hide ((unhide RXS).up hb)
  clear RXS
  have RXS := RXS_
  clear RXS_
  have A_ := hide ((unhide A).ups hb)
  clear A
  have A := A_
  clear A_
  have W_ := hide ((unhide W).ups hb)
  clear W
  have W := W_
  clear W_
  have X_ := hide ((unhide X).ups hb)
  clear X
  have X := X_
  clear X_
  have OW_ := hide ((unhide OW).up hb)
  clear OW
  have OW := OW_
  clear OW_
  have OX_ := hide ((unhide OX).up hb)
  clear OX
  have OX := OX_
  clear OX_
  have sz10 := hide hb.size
  have BB_ := hide (below_y (unhide BB) hb)
  clear BB
  have BB := BB_
  clear BB_ hb
  obtain ⟨w12, hG⟩ : ∃ X, X = w11.alloc (.cells ([.string b2.name, .int .i64 b2.valid, .int .i64 b2.next, .int .i64 b2.mod, .slice amG b2.mails.length cmG, .slice atG b2.tombs.length ctG, .int .i64 b2.hor] : List Value).toArray 33) := ⟨_, rfl⟩
  have Gx : HasObj w12 w11.heap.size 33 [.string b2.name, .int .i64 b2.valid, .int .i64 b2.next, .int .i64 b2.mod, .slice amG b2.mails.length cmG, .slice atG b2.tombs.length ctG, .int .i64 b2.hor] := by rw [hG]; exact HasObj.new _ _ _
  have hbn : Below w11.heap.size w11 w12 := by rw [hG]; exact (Below.refl _ _).alloc (Nat.le_refl _) _
  have EG := hG.symm
  clear hG
  have RWD_ := hide ((unhide RWD).up hbn)
  clear RWD
  have RWD := RWD_
  clear RWD_
  have RXS_ := hide ((unhide RXS).up hbn)
  clear RXS
  have RXS := RXS_
  clear RXS_
  have RGD_ := hide ((unhide RGD).up hbn)
  clear RGD
  have RGD := RGD_
  clear RGD_
  have A_ := hide ((unhide A).ups hbn)
  clear A
  have A := A_
  clear A_
  have W_ := hide ((unhide W).ups hbn)
  clear W
  have W := W_
  clear W_
  have X_ := hide ((unhide X).ups hbn)
  clear X
  have X := X_
  clear X_
  have OW_ := hide ((unhide OW).up hbn)
  clear OW
  have OW := OW_
  clear OW_
  have OX_ := hide ((unhide OX).up hbn)
  clear OX
  have OX := OX_
  clear OX_
  have OG_ := hide ((unhide OG).up hbn)
  clear OG
  have OG := OG_
  clear OG_
  have sz11 := hide hbn.size
  have BB_ := hide (below_y (unhide BB) hbn)
  clear BB
  have BB := BB_
  clear BB_ hbn
  have G := hide Gx
  clear Gx
  have Gc0 := (unhide G).cell 0 rfl
  have Gc1 := (unhide G).cell 1 rfl
  have Gc2 := (unhide G).cell 2 rfl
  have Gc3 := (unhide G).cell 3 rfl
  have Gc4 := (unhide G).cell 4 rfl
  have Gc5 := (unhide G).cell 5 rfl
  have Gc6 := (unhide G).cell 6 rfl
  have Wc0 := (unhide W).cell 0 rfl
  have Wc1 := (unhide W).cell 1 rfl
  have Wc2 := (unhide W).cell 2 rfl
  have Wc3 := (unhide W).cell 3 rfl
  have Wc4 := (unhide W).cell 4 rfl
  have Wc5 := (unhide W).cell 5 rfl
  have Wc6 := (unhide W).cell 6 rfl
  go_wp2_with fail
  clear Gc0 Gc1 Gc2 Gc3 Gc4 Gc5 Gc6 Wc0 Wc1 Wc2 Wc3 Wc4 Wc5 Wc6
  refine (eqBox_same b2 _ _ _ _ _ _ _ (unhide AL).1 (unhide AL).2.1 (unhide OG) (unhide OW)).mono ?_
  rintro e w13 ⟨rfl, hb⟩
  have RWD_ := hide ((unhide RWD).up hb)
  clear RWD
  have RWD := RWD_
  clear RWD_
  have RXS_ := hide ((unhide RXS).up hb)
  clear RXS
  have RXS := RXS_
  clear RXS_
  have RGD_ := hide ((unhide RGD).up hb)
  clear RGD
  have RGD := RGD_
  clear RGD_
  have A_ := hide ((unhide A).ups hb)
  clear A
  have A := A_
  clear A_
  have W_ := hide ((unhide W).ups hb)
  clear W
  have W := W_
  clear W_
  have X_ := hide ((unhide X).ups hb)
  clear X
  have X := X_
  clear X_
  have G_ := hide ((unhide G).ups hb)
  clear G
  have G := G_
  clear G_
  have OW_ := hide ((unhide OW).up hb)
  clear OW
  have OW := OW_
  clear OW_
  have OX_ := hide ((unhide OX).up hb)
  clear OX
  have OX := OX_
  clear OX_
  have OG_ := hide ((unhide OG).up hb)
  clear OG
  have OG := OG_
  clear OG_
  have sz12 := hide hb.size
  have BB_ := hide (below_y (unhide BB) hb)
  clear BB
  have BB := BB_
  clear BB_ hb
  go_wp2_with fail
  refine (eqRangeS_same lD _ _ _ _ _ ((unhide AL).2.2) (unhide RGD) (unhide RWD)).mono ?_
  rintro e w14 ⟨rfl, hb⟩
  have RWD_ := hide ((unhide RWD).up hb)
  clear RWD
  have RWD := RWD_
  clear RWD_
  have RXS_ := hide ((unhide RXS).up hb)
  clear RXS
  have RXS := RXS_
  clear RXS_
  have RGD_ := hide ((unhide RGD).up hb)
  clear RGD
  have RGD := RGD_
  clear RGD_
  have A_ := hide ((unhide A).ups hb)
  clear A
  have A := A_
  clear A_
  have W_ := hide ((unhide W).ups hb)
  clear W
  have W := W_
  clear W_
  have X_ := hide ((unhide X).ups hb)
  clear X
  have X := X_
  clear X_
  have G_ := hide ((unhide G).ups hb)
  clear G
  have G := G_
  clear G_
  have OW_ := hide ((unhide OW).up hb)
  clear OW
  have OW := OW_
  clear OW_
  have OX_ := hide ((unhide OX).up hb)
  clear OX
  have OX := OX_
  clear OX_
  have OG_ := hide ((unhide OG).up hb)
  clear OG
  have OG := OG_
  clear OG_
  have sz13 := hide hb.size
  have BB_ := hide (below_y (unhide BB) hb)
  clear BB
  have BB := BB_
  clear BB_ hb
  clear EG
  have Xc0 := (unhide X).cell 0 rfl
  have Xc1 := (unhide X).cell 1 rfl
  have Xc2 := (unhide X).cell 2 rfl
  have Xc3 := (unhide X).cell 3 rfl
  have Xc4 := (unhide X).cell 4 rfl
  have Xc5 := (unhide X).cell 5 rfl
  have Xc6 := (unhide X).cell 6 rfl
  have Ac0 := (unhide A).cell 0 rfl
  have Ac1 := (unhide A).cell 1 rfl
  have Ac2 := (unhide A).cell 2 rfl
  have Ac3 := (unhide A).cell 3 rfl
  have Ac4 := (unhide A).cell 4 rfl
  have Ac5 := (unhide A).cell 5 rfl
  have Ac6 := (unhide A).cell 6 rfl
  go_wp2
  refine wp_region_held_drew (S := fun w' => w'.cell? ⟨w8.heap.size, 0, none⟩ = some (.string b.name) ∧ w'.cell? ⟨w8.heap.size, 1, none⟩ = some (.int .i64 b.valid) ∧ w'.cell? ⟨w8.heap.size, 2, none⟩ = some (.int .i64 b.next) ∧ w'.cell? ⟨w8.heap.size, 3, none⟩ = some (.int .i64 b.mod) ∧ w'.cell? ⟨w8.heap.size, 4, none⟩ = some (.slice amX b.mails.length cmX) ∧ w'.cell? ⟨w8.heap.size, 5, none⟩ = some (.slice atX b.tombs.length ctX) ∧ w'.cell? ⟨w8.heap.size, 6, none⟩ = some (.int .i64 b.hor) ∧ w'.cell? ⟨w.heap.size, 0, none⟩ = some (.string b.name) ∧ w'.cell? ⟨w.heap.size, 1, none⟩ = some (.int .i64 b.valid) ∧ w'.cell? ⟨w.heap.size, 2, none⟩ = some (.int .i64 b.next) ∧ w'.cell? ⟨w.heap.size, 3, none⟩ = some (.int .i64 b.mod) ∧ w'.cell? ⟨w.heap.size, 4, none⟩ = some (.slice a1 b.mails.length c1) ∧ w'.cell? ⟨w.heap.size, 5, none⟩ = some (.slice a2 b.tombs.length c2) ∧ w'.cell? ⟨w.heap.size, 6, none⟩ = some (.int .i64 b.hor)) (by kernel_rfl) (⟨Xc0, Xc1, Xc2, Xc3, Xc4, Xc5, Xc6, Ac0, Ac1, Ac2, Ac3, Ac4, Ac5, Ac6⟩) (fun hHeld => ?_)
  refine takeVal 0 (some 55) ?_ rfl (by kernel_rfl) (by kernel_rfl) (by kernel_rfl) rfl (fun _ _ _ h => h) (by rfl) (by assumption) ?_ ?_
  rotate_left
  · (intro w hSw; (try dsimp only at hSw); go_simp <;> with_reducible rfl)
  simp only [Act.put, List.setIfInBounds_toArray, List.set_cons_zero, List.set_cons_succ]
  refine takeVal 1 (some 56) ?_ rfl (by kernel_rfl) (by kernel_rfl) (by kernel_rfl) rfl (fun _ _ _ h => h) (by rfl) (by assumption) ?_ ?_
  rotate_left
  · (intro w hSw; (try dsimp only at hSw); go_simp <;> with_reducible rfl)
  simp only [Act.put, List.setIfInBounds_toArray, List.set_cons_zero, List.set_cons_succ]
  clear Xc0 Xc1 Xc2 Xc3 Xc4 Xc5 Xc6 Ac0 Ac1 Ac2 Ac3 Ac4 Ac5 Ac6
  have RWD_ := hide (unhide RWD).drew
  clear RWD
  have RWD := RWD_
  clear RWD_
  have RXS_ := hide (unhide RXS).drew
  clear RXS
  have RXS := RXS_
  clear RXS_
  have RGD_ := hide (unhide RGD).drew
  clear RGD
  have RGD := RGD_
  clear RGD_
  have A_ := hide (unhide A).drew
  clear A
  have A := A_
  clear A_
  have W_ := hide (unhide W).drew
  clear W
  have W := W_
  clear W_
  have X_ := hide (unhide X).drew
  clear X
  have X := X_
  clear X_
  have G_ := hide (unhide G).drew
  clear G
  have G := G_
  clear G_
  have OW_ := hide (unhide OW).drew
  clear OW
  have OW := OW_
  clear OW_
  have OX_ := hide (unhide OX).drew
  clear OX
  have OX := OX_
  clear OX_
  have OG_ := hide (unhide OG).drew
  clear OG
  have OG := OG_
  clear OG_
  have BB_ := hide (unhide BB).drew
  clear BB
  have BB := BB_
  clear BB_
  refine wpAnyH_ready (rs := [2]) (by kernel_rfl) (by simp) ?_
  refine AllReadyH.cons rfl (fun K hK => ?_) AllReadyH.nil
  go_simp
  refine (unhide TB _ (unhide BB)).mono ?_
  rintro e w15 ⟨mC16, tC16, rfl, oC16, hb1⟩
  go_wp2_with fail
  refine hK.out _ _ (⟨((unhide X).ups hb1).cell 0 rfl, ((unhide X).ups hb1).cell 1 rfl, ((unhide X).ups hb1).cell 2 rfl, ((unhide X).ups hb1).cell 3 rfl, ((unhide X).ups hb1).cell 4 rfl, ((unhide X).ups hb1).cell 5 rfl, ((unhide X).ups hb1).cell 6 rfl, ((unhide A).ups hb1).cell 0 rfl, ((unhide A).ups hb1).cell 1 rfl, ((unhide A).ups hb1).cell 2 rfl, ((unhide A).ups hb1).cell 3 rfl, ((unhide A).ups hb1).cell 4 rfl, ((unhide A).ups hb1).cell 5 rfl, ((unhide A).ups hb1).cell 6 rfl⟩) (fun hHeld2 => ?_)
  clear hK K hHeld
  have hHeld := hHeld2; clear hHeld2
  try simp only [Act.put, List.setIfInBounds_toArray, List.set_cons_zero, List.set_cons_succ]
  obtain ⟨amC16, cmC16, rfl⟩ := g_shape oC16.1
  obtain ⟨atC16, ctC16, rfl⟩ := g_shape oC16.2
  have OC16 := hide oC16
  clear oC16
  have RWD_ := hide ((unhide RWD).up hb1)
  clear RWD
  have RWD := RWD_
  clear RWD_
  have RXS_ := hide ((unhide RXS).up hb1)
  clear RXS
  have RXS := RXS_
  clear RXS_
  have RGD_ := hide ((unhide RGD).up hb1)
  clear RGD
  have RGD := RGD_
  clear RGD_
  have A_ := hide ((unhide A).ups hb1)
  clear A
  have A := A_
  clear A_
  have W_ := hide ((unhide W).ups hb1)
  clear W
  have W := W_
  clear W_
  have X_ := hide ((unhide X).ups hb1)
  clear X
  have X := X_
  clear X_
  have G_ := hide ((unhide G).ups hb1)
  clear G
  have G := G_
  clear G_
  have OW_ := hide ((unhide OW).up hb1)
  clear OW
  have OW := OW_
  clear OW_
  have OX_ := hide ((unhide OX).up hb1)
  clear OX
  have OX := OX_
  clear OX_
  have OG_ := hide ((unhide OG).up hb1)
  clear OG
  have OG := OG_
  clear OG_
  have sz14 := hide hb1.size
  have BB_ := hide (below_y (unhide BB) hb1)
  clear BB
  have BB := BB_
  clear BB_ hb1
  refine wpAnyH_ready (rs := [3]) (by kernel_rfl) (by simp) ?_
  refine AllReadyH.cons rfl (fun K hK => ?_) AllReadyH.nil
  go_simp
  refine (eqBox_same b _ _ _ _ _ _ _ (unhide SM).2.1.1 (unhide SM).2.2 (unhide OX) (unhide OC16)).mono ?_
  rintro e w16 ⟨rfl, hb2⟩
  go_wp2_with fail
  refine hK.out _ _ (⟨((unhide X).ups hb2).cell 0 rfl, ((unhide X).ups hb2).cell 1 rfl, ((unhide X).ups hb2).cell 2 rfl, ((unhide X).ups hb2).cell 3 rfl, ((unhide X).ups hb2).cell 4 rfl, ((unhide X).ups hb2).cell 5 rfl, ((unhide X).ups hb2).cell 6 rfl, ((unhide A).ups hb2).cell 0 rfl, ((unhide A).ups hb2).cell 1 rfl, ((unhide A).ups hb2).cell 2 rfl, ((unhide A).ups hb2).cell 3 rfl, ((unhide A).ups hb2).cell 4 rfl, ((unhide A).ups hb2).cell 5 rfl, ((unhide A).ups hb2).cell 6 rfl⟩) (fun hHeld2 => ?_)
  clear hK K hHeld
  have hHeld := hHeld2; clear hHeld2
  try simp only [Act.put, List.setIfInBounds_toArray, List.set_cons_zero, List.set_cons_succ]
  have RWD_ := hide ((unhide RWD).up hb2)
  clear RWD
  have RWD := RWD_
  clear RWD_
  have RXS_ := hide ((unhide RXS).up hb2)
  clear RXS
  have RXS := RXS_
  clear RXS_
  have RGD_ := hide ((unhide RGD).up hb2)
  clear RGD
  have RGD := RGD_
  clear RGD_
  have A_ := hide ((unhide A).ups hb2)
  clear A
  have A := A_
  clear A_
  have W_ := hide ((unhide W).ups hb2)
  clear W
  have W := W_
  clear W_
  have X_ := hide ((unhide X).ups hb2)
  clear X
  have X := X_
  clear X_
  have G_ := hide ((unhide G).ups hb2)
  clear G
  have G := G_
  clear G_
  have OW_ := hide ((unhide OW).up hb2)
  clear OW
  have OW := OW_
  clear OW_
  have OX_ := hide ((unhide OX).up hb2)
  clear OX
  have OX := OX_
  clear OX_
  have OG_ := hide ((unhide OG).up hb2)
  clear OG
  have OG := OG_
  clear OG_
  have sz15 := hide hb2.size
  have BB_ := hide (below_y (unhide BB) hb2)
  clear BB
  have BB := BB_
  clear BB_ hb2
  refine takeVal 4 (some 59) ?_ rfl (by kernel_rfl) (by kernel_rfl) (by kernel_rfl) rfl (fun _ _ _ h => h) (by rfl) (by assumption) ?_ ?_
  rotate_left
  · (intro w hSw; (try dsimp only at hSw); go_simp <;> with_reducible rfl)
  simp only [Act.put, List.setIfInBounds_toArray, List.set_cons_zero, List.set_cons_succ]
  refine wpAnyH_done (by kernel_rfl) ?_ _
  go_wp2_with fail
  refine (unhide TR _ (unhide BB)).mono ?_
  rintro e w17 ⟨vC, rfl, oC, hb⟩
  obtain ⟨aC, cC, rfl⟩ := g_shape oC
  have NC := hide (fun g (h : Value.ownBlock _ = some g) => World.ownsRow.lt oC g h)
  have RC := hide oC
  clear oC
  have RWD_ := hide ((unhide RWD).up hb)
  clear RWD
  have RWD := RWD_
  clear RWD_
  have RXS_ := hide ((unhide RXS).up hb)
  clear RXS
  have RXS := RXS_
  clear RXS_
  have RGD_ := hide ((unhide RGD).up hb)
  clear RGD
  have RGD := RGD_
  clear RGD_
  have A_ := hide ((unhide A).ups hb)
  clear A
  have A := A_
  clear A_
  have W_ := hide ((unhide W).ups hb)
  clear W
  have W := W_
  clear W_
  have X_ := hide ((unhide X).ups hb)
  clear X
  have X := X_
  clear X_
  have G_ := hide ((unhide G).ups hb)
  clear G
  have G := G_
  clear G_
  have OW_ := hide ((unhide OW).up hb)
  clear OW
  have OW := OW_
  clear OW_
  have OX_ := hide ((unhide OX).up hb)
  clear OX
  have OX := OX_
  clear OX_
  have OG_ := hide ((unhide OG).up hb)
  clear OG
  have OG := OG_
  clear OG_
  have sz16 := hide hb.size
  have BB_ := hide (below_y (unhide BB) hb)
  clear BB
  have BB := BB_
  clear BB_ hb
  go_wp2_with fail
  refine (eqRangeS_same s _ _ _ _ _ hs (unhide RXS) (unhide RC)).mono ?_
  rintro e w18 ⟨rfl, hb⟩
  have RWD_ := hide ((unhide RWD).up hb)
  clear RWD
  have RWD := RWD_
  clear RWD_
  have RXS_ := hide ((unhide RXS).up hb)
  clear RXS
  have RXS := RXS_
  clear RXS_
  have RGD_ := hide ((unhide RGD).up hb)
  clear RGD
  have RGD := RGD_
  clear RGD_
  have RC_ := hide ((unhide RC).up hb)
  clear RC
  have RC := RC_
  clear RC_
  have A_ := hide ((unhide A).ups hb)
  clear A
  have A := A_
  clear A_
  have W_ := hide ((unhide W).ups hb)
  clear W
  have W := W_
  clear W_
  have X_ := hide ((unhide X).ups hb)
  clear X
  have X := X_
  clear X_
  have G_ := hide ((unhide G).ups hb)
  clear G
  have G := G_
  clear G_
  have OW_ := hide ((unhide OW).up hb)
  clear OW
  have OW := OW_
  clear OW_
  have OX_ := hide ((unhide OX).up hb)
  clear OX
  have OX := OX_
  clear OX_
  have OG_ := hide ((unhide OG).up hb)
  clear OG
  have OG := OG_
  clear OG_
  have sz17 := hide hb.size
  have BB_ := hide (below_y (unhide BB) hb)
  clear BB
  have BB := BB_
  clear BB_ hb
  clear RC
  have Xc0 := (unhide X).cell 0 rfl
  have Xc1 := (unhide X).cell 1 rfl
  have Xc2 := (unhide X).cell 2 rfl
  have Xc3 := (unhide X).cell 3 rfl
  have Xc4 := (unhide X).cell 4 rfl
  have Xc5 := (unhide X).cell 5 rfl
  have Xc6 := (unhide X).cell 6 rfl
  go_wp2_with fail
  clear Xc0 Xc1 Xc2 Xc3 Xc4 Xc5 Xc6
  refine (markBox_any b _ _ _ 1 _ (unhide SM).2.1.1 (unhide SM).2.2 (by decide) (by decide) (unhide OX)).mono ?_
  rintro e w19 ⟨rfl, om, hg⟩
  have A_ := hide (hg.obj (unhide A) (fun hh => by rcases hh with hh | hh; exact (unhide A).not_row (by decide) (unhide OX).1 hh; exact (unhide A).not_row (by decide) (unhide OX).2 hh))
  have W_ := hide (hg.obj (unhide W) (fun hh => by rcases hh with hh | hh; exact (unhide W).not_row (by decide) (unhide OX).1 hh; exact (unhide W).not_row (by decide) (unhide OX).2 hh))
  have X_ := hide (hg.obj (unhide X) (fun hh => by rcases hh with hh | hh; exact (unhide X).not_row (by decide) (unhide OX).1 hh; exact (unhide X).not_row (by decide) (unhide OX).2 hh))
  have G_ := hide (hg.obj (unhide G) (fun hh => by rcases hh with hh | hh; exact (unhide G).not_row (by decide) (unhide OX).1 hh; exact (unhide G).not_row (by decide) (unhide OX).2 hh))
  have OW_ := hide ((unhide OW).but hg (fun g hg1 hg2 => by have q1 := unhide NW g hg1; have q2 := unhide NX g hg2; have z1 := unhide sz1; have z2 := unhide sz2; have z3 := unhide sz3; have z4 := unhide sz4; have z5 := unhide sz5; have z6 := unhide sz6; have z7 := unhide sz7; have z8 := unhide sz8; have z9 := unhide sz9; have z10 := unhide sz10; have z11 := unhide sz11; have z12 := unhide sz12; have z13 := unhide sz13; have z14 := unhide sz14; have z15 := unhide sz15; have z16 := unhide sz16; have z17 := unhide sz17; omega))
  have OG_ := hide ((unhide OG).but hg (fun g hg1 hg2 => by have q1 := unhide NG g hg1; have q2 := unhide NX g hg2; have z1 := unhide sz1; have z2 := unhide sz2; have z3 := unhide sz3; have z4 := unhide sz4; have z5 := unhide sz5; have z6 := unhide sz6; have z7 := unhide sz7; have z8 := unhide sz8; have z9 := unhide sz9; have z10 := unhide sz10; have z11 := unhide sz11; have z12 := unhide sz12; have z13 := unhide sz13; have z14 := unhide sz14; have z15 := unhide sz15; have z16 := unhide sz16; have z17 := unhide sz17; omega))
  have RWD_ : Hid (OwnR _ w19 _ _) := hg.row (unhide RWD) (fun g hg1 hg2 => by rcases hg2 with hg2 | hg2; exact rows_apart (unhide OX).1 (unhide RWD) (by decide) g hg2 hg1; exact rows_apart (unhide OX).2 (unhide RWD) (by decide) g hg2 hg1)
  have RXS_ : Hid (OwnR _ w19 _ _) := hg.row (unhide RXS) (fun g hg1 hg2 => by rcases hg2 with hg2 | hg2; exact rows_apart (unhide OX).1 (unhide RXS) (by decide) g hg2 hg1; exact rows_apart (unhide OX).2 (unhide RXS) (by decide) g hg2 hg1)
  have RGD_ : Hid (OwnR _ w19 _ _) := hg.row (unhide RGD) (fun g hg1 hg2 => by rcases hg2 with hg2 | hg2; exact rows_apart (unhide OX).1 (unhide RGD) (by decide) g hg2 hg1; exact rows_apart (unhide OX).2 (unhide RGD) (by decide) g hg2 hg1)
  have BB_ : Hid (Below w.heap.size w w19) := (unhide BB).trans (hg.toBelow (unhide BB).size (fun g hh => by have q2 := unhide NX g hh; have z1 := unhide sz1; have z2 := unhide sz2; have z3 := unhide sz3; have z4 := unhide sz4; have z5 := unhide sz5; have z6 := unhide sz6; have z7 := unhide sz7; have z8 := unhide sz8; have z9 := unhide sz9; have z10 := unhide sz10; have z11 := unhide sz11; have z12 := unhide sz12; have z13 := unhide sz13; have z14 := unhide sz14; have z15 := unhide sz15; have z16 := unhide sz16; have z17 := unhide sz17; omega))
  have sz18 := hide hg.size
  clear A
  have A := A_
  clear A_
  clear W
  have W := W_
  clear W_
  clear X
  have X := X_
  clear X_
  clear G
  have G := G_
  clear G_
  clear OW
  have OW := OW_
  clear OW_
  clear OG
  have OG := OG_
  clear OG_
  clear RWD
  have RWD := RWD_
  clear RWD_
  clear RXS
  have RXS := RXS_
  clear RXS_
  clear RGD
  have RGD := RGD_
  clear RGD_
  clear BB
  have BB := BB_
  clear BB_
  clear OX
  have OX := hide om
  clear om hg
  clear OX
  clear X
  have z1 := (unhide SM).2.1.1
  have z2 := (unhide SM).2.2
  go_wp2_with fail
  refine (markR_at s _ _ _ _ (by omega) (by omega) hs (unhide RXS)).mono ?_
  rintro e w20 ⟨rfl, om, hg0⟩
  have hg := GrownBut.of hg0
  have A_ := hide (hg.obj (unhide A) (fun hh => (unhide A).not_row (by decide) (unhide RXS) hh))
  have W_ := hide (hg.obj (unhide W) (fun hh => (unhide W).not_row (by decide) (unhide RXS) hh))
  have G_ := hide (hg.obj (unhide G) (fun hh => (unhide G).not_row (by decide) (unhide RXS) hh))
  have OW_ := hide ((unhide OW).but hg (fun g hg1 hg2 => by rcases hg1 with hg1 | hg1; exact rows_apart (unhide OW).1 (unhide RXS) (by decide) g hg1 hg2; exact rows_apart (unhide OW).2 (unhide RXS) (by decide) g hg1 hg2))
  have OG_ := hide ((unhide OG).but hg (fun g hg1 hg2 => by rcases hg1 with hg1 | hg1; exact rows_apart (unhide OG).1 (unhide RXS) (by decide) g hg1 hg2; exact rows_apart (unhide OG).2 (unhide RXS) (by decide) g hg1 hg2))
  have RWD_ : Hid (OwnR _ w20 _ _) := hg.row (unhide RWD) (fun g hg1 hg2 => by have q1 := unhide NWD g hg1; have q2 := unhide NXS g hg2; have z1 := unhide sz1; have z2 := unhide sz2; have z3 := unhide sz3; have z4 := unhide sz4; have z5 := unhide sz5; have z6 := unhide sz6; have z7 := unhide sz7; have z8 := unhide sz8; have z9 := unhide sz9; have z10 := unhide sz10; have z11 := unhide sz11; have z12 := unhide sz12; have z13 := unhide sz13; have z14 := unhide sz14; have z15 := unhide sz15; have z16 := unhide sz16; have z17 := unhide sz17; have z18 := unhide sz18; omega)
  have RGD_ : Hid (OwnR _ w20 _ _) := hg.row (unhide RGD) (fun g hg1 hg2 => by have q1 := unhide NGD g hg1; have q2 := unhide NXS g hg2; have z1 := unhide sz1; have z2 := unhide sz2; have z3 := unhide sz3; have z4 := unhide sz4; have z5 := unhide sz5; have z6 := unhide sz6; have z7 := unhide sz7; have z8 := unhide sz8; have z9 := unhide sz9; have z10 := unhide sz10; have z11 := unhide sz11; have z12 := unhide sz12; have z13 := unhide sz13; have z14 := unhide sz14; have z15 := unhide sz15; have z16 := unhide sz16; have z17 := unhide sz17; have z18 := unhide sz18; omega)
  have BB_ : Hid (Below w.heap.size w w20) := (unhide BB).trans (hg.toBelow (unhide BB).size (fun g hh => by have q2 := unhide NXS g hh; have z1 := unhide sz1; have z2 := unhide sz2; have z3 := unhide sz3; have z4 := unhide sz4; have z5 := unhide sz5; have z6 := unhide sz6; have z7 := unhide sz7; have z8 := unhide sz8; have z9 := unhide sz9; have z10 := unhide sz10; have z11 := unhide sz11; have z12 := unhide sz12; have z13 := unhide sz13; have z14 := unhide sz14; have z15 := unhide sz15; have z16 := unhide sz16; have z17 := unhide sz17; have z18 := unhide sz18; omega))
  have sz19 := hide hg.size
  clear A
  have A := A_
  clear A_
  clear W
  have W := W_
  clear W_
  clear G
  have G := G_
  clear G_
  clear OW
  have OW := OW_
  clear OW_
  clear OG
  have OG := OG_
  clear OG_
  clear RWD
  have RWD := RWD_
  clear RWD_
  clear RGD
  have RGD := RGD_
  clear RGD_
  clear BB
  have BB := BB_
  clear BB_
  clear RXS
  have RXS := hide om
  clear om hg hg0
  clear RXS
  have j1 : ¬ (1 : Int) + (b.mails.length : Int) * 4 + (b.tombs.length : Int) * 2 + (s.length : Int) * 2 < 0 := by omega
  have Gc0 := (unhide G).cell 0 rfl
  have Gc1 := (unhide G).cell 1 rfl
  have Gc2 := (unhide G).cell 2 rfl
  have Gc3 := (unhide G).cell 3 rfl
  have Gc4 := (unhide G).cell 4 rfl
  have Gc5 := (unhide G).cell 5 rfl
  have Gc6 := (unhide G).cell 6 rfl
  have Wc0 := (unhide W).cell 0 rfl
  have Wc1 := (unhide W).cell 1 rfl
  have Wc2 := (unhide W).cell 2 rfl
  have Wc3 := (unhide W).cell 3 rfl
  have Wc4 := (unhide W).cell 4 rfl
  have Wc5 := (unhide W).cell 5 rfl
  have Wc6 := (unhide W).cell 6 rfl
  go_wp2_with fail
  clear Gc0 Gc1 Gc2 Gc3 Gc4 Gc5 Gc6 Wc0 Wc1 Wc2 Wc3 Wc4 Wc5 Wc6
  refine (eqBox_same b2 _ _ _ _ _ _ _ (unhide AL).1 (unhide AL).2.1 (unhide OG) (unhide OW)).mono ?_
  rintro e w21 ⟨rfl, hb⟩
  have RWD_ := hide ((unhide RWD).up hb)
  clear RWD
  have RWD := RWD_
  clear RWD_
  have RGD_ := hide ((unhide RGD).up hb)
  clear RGD
  have RGD := RGD_
  clear RGD_
  have A_ := hide ((unhide A).ups hb)
  clear A
  have A := A_
  clear A_
  have W_ := hide ((unhide W).ups hb)
  clear W
  have W := W_
  clear W_
  have G_ := hide ((unhide G).ups hb)
  clear G
  have G := G_
  clear G_
  have OW_ := hide ((unhide OW).up hb)
  clear OW
  have OW := OW_
  clear OW_
  have OG_ := hide ((unhide OG).up hb)
  clear OG
  have OG := OG_
  clear OG_
  have sz20 := hide hb.size
  have BB_ := hide (below_y (unhide BB) hb)
  clear BB
  have BB := BB_
  clear BB_ hb
  go_wp2_with fail
  refine (eqRangeS_same lD _ _ _ _ _ ((unhide AL).2.2) (unhide RGD) (unhide RWD)).mono ?_
  rintro e w22 ⟨rfl, hb⟩
  have RWD_ := hide ((unhide RWD).up hb)
  clear RWD
  have RWD := RWD_
  clear RWD_
  have RGD_ := hide ((unhide RGD).up hb)
  clear RGD
  have RGD := RGD_
  clear RGD_
  have A_ := hide ((unhide A).ups hb)
  clear A
  have A := A_
  clear A_
  have W_ := hide ((unhide W).ups hb)
  clear W
  have W := W_
  clear W_
  have G_ := hide ((unhide G).ups hb)
  clear G
  have G := G_
  clear G_
  have OW_ := hide ((unhide OW).up hb)
  clear OW
  have OW := OW_
  clear OW_
  have OG_ := hide ((unhide OG).up hb)
  clear OG
  have OG := OG_
  clear OG_
  have sz21 := hide hb.size
  have BB_ := hide (below_y (unhide BB) hb)
  clear BB
  have BB := BB_
  clear BB_ hb
  have y1 := (unhide AL).1
  have y2 := (unhide AL).2.1
  have yD := (unhide AL).2.2
  have Gc0 := (unhide G).cell 0 rfl
  have Gc1 := (unhide G).cell 1 rfl
  have Gc2 := (unhide G).cell 2 rfl
  have Gc3 := (unhide G).cell 3 rfl
  have Gc4 := (unhide G).cell 4 rfl
  have Gc5 := (unhide G).cell 5 rfl
  have Gc6 := (unhide G).cell 6 rfl
  go_wp2_with fail
  clear Gc0 Gc1 Gc2 Gc3 Gc4 Gc5 Gc6
  refine (markBox_any b2 _ _ _ 1 _ (unhide AL).1 (unhide AL).2.1 (by decide) (by decide) (unhide OG)).mono ?_
  rintro e w23 ⟨rfl, om, hg⟩
  have A_ := hide (hg.obj (unhide A) (fun hh => by rcases hh with hh | hh; exact (unhide A).not_row (by decide) (unhide OG).1 hh; exact (unhide A).not_row (by decide) (unhide OG).2 hh))
  have W_ := hide (hg.obj (unhide W) (fun hh => by rcases hh with hh | hh; exact (unhide W).not_row (by decide) (unhide OG).1 hh; exact (unhide W).not_row (by decide) (unhide OG).2 hh))
  have G_ := hide (hg.obj (unhide G) (fun hh => by rcases hh with hh | hh; exact (unhide G).not_row (by decide) (unhide OG).1 hh; exact (unhide G).not_row (by decide) (unhide OG).2 hh))
  have OW_ := hide ((unhide OW).but hg (fun g hg1 hg2 => by have q1 := unhide NW g hg1; have q2 := unhide NG g hg2; have z1 := unhide sz1; have z2 := unhide sz2; have z3 := unhide sz3; have z4 := unhide sz4; have z5 := unhide sz5; have z6 := unhide sz6; have z7 := unhide sz7; have z8 := unhide sz8; have z9 := unhide sz9; have z10 := unhide sz10; have z11 := unhide sz11; have z12 := unhide sz12; have z13 := unhide sz13; have z14 := unhide sz14; have z15 := unhide sz15; have z16 := unhide sz16; have z17 := unhide sz17; have z18 := unhide sz18; have z19 := unhide sz19; have z20 := unhide sz20; have z21 := unhide sz21; omega))
  have RWD_ : Hid (OwnR _ w23 _ _) := hg.row (unhide RWD) (fun g hg1 hg2 => by rcases hg2 with hg2 | hg2; exact rows_apart (unhide OG).1 (unhide RWD) (by decide) g hg2 hg1; exact rows_apart (unhide OG).2 (unhide RWD) (by decide) g hg2 hg1)
  have RGD_ : Hid (OwnR _ w23 _ _) := hg.row (unhide RGD) (fun g hg1 hg2 => by rcases hg2 with hg2 | hg2; exact rows_apart (unhide OG).1 (unhide RGD) (by decide) g hg2 hg1; exact rows_apart (unhide OG).2 (unhide RGD) (by decide) g hg2 hg1)
  have BB_ : Hid (Below w.heap.size w w23) := (unhide BB).trans (hg.toBelow (unhide BB).size (fun g hh => by have q2 := unhide NG g hh; have z1 := unhide sz1; have z2 := unhide sz2; have z3 := unhide sz3; have z4 := unhide sz4; have z5 := unhide sz5; have z6 := unhide sz6; have z7 := unhide sz7; have z8 := unhide sz8; have z9 := unhide sz9; have z10 := unhide sz10; have z11 := unhide sz11; have z12 := unhide sz12; have z13 := unhide sz13; have z14 := unhide sz14; have z15 := unhide sz15; have z16 := unhide sz16; have z17 := unhide sz17; have z18 := unhide sz18; have z19 := unhide sz19; have z20 := unhide sz20; have z21 := unhide sz21; omega))
  have sz22 := hide hg.size
  clear A
  have A := A_
  clear A_
  clear W
  have W := W_
  clear W_
  clear G
  have G := G_
  clear G_
  clear OW
  have OW := OW_
  clear OW_
  clear RWD
  have RWD := RWD_
  clear RWD_
  clear RGD
  have RGD := RGD_
  clear RGD_
  clear BB
  have BB := BB_
  clear BB_
  clear OG
  have OG := hide om
  clear om hg
  go_wp2_with fail
  refine (markR_at lD _ _ _ _ (by omega) (by omega) (unhide AL).2.2 (unhide RGD)).mono ?_
  rintro e w24 ⟨rfl, om, hg0⟩
  have hg := GrownBut.of hg0
  have A_ := hide (hg.obj (unhide A) (fun hh => (unhide A).not_row (by decide) (unhide RGD) hh))
  have W_ := hide (hg.obj (unhide W) (fun hh => (unhide W).not_row (by decide) (unhide RGD) hh))
  have G_ := hide (hg.obj (unhide G) (fun hh => (unhide G).not_row (by decide) (unhide RGD) hh))
  have OW_ := hide ((unhide OW).but hg (fun g hg1 hg2 => by rcases hg1 with hg1 | hg1; exact rows_apart (unhide OW).1 (unhide RGD) (by decide) g hg1 hg2; exact rows_apart (unhide OW).2 (unhide RGD) (by decide) g hg1 hg2))
  have OG_ := hide ((unhide OG).but hg (fun g hg1 hg2 => by rcases hg1 with hg1 | hg1; exact rows_apart (unhide OG).1 (unhide RGD) (by decide) g hg1 hg2; exact rows_apart (unhide OG).2 (unhide RGD) (by decide) g hg1 hg2))
  have RWD_ : Hid (OwnR _ w24 _ _) := hg.row (unhide RWD) (fun g hg1 hg2 => by have q1 := unhide NWD g hg1; have q2 := unhide NGD g hg2; have z1 := unhide sz1; have z2 := unhide sz2; have z3 := unhide sz3; have z4 := unhide sz4; have z5 := unhide sz5; have z6 := unhide sz6; have z7 := unhide sz7; have z8 := unhide sz8; have z9 := unhide sz9; have z10 := unhide sz10; have z11 := unhide sz11; have z12 := unhide sz12; have z13 := unhide sz13; have z14 := unhide sz14; have z15 := unhide sz15; have z16 := unhide sz16; have z17 := unhide sz17; have z18 := unhide sz18; have z19 := unhide sz19; have z20 := unhide sz20; have z21 := unhide sz21; have z22 := unhide sz22; omega)
  have BB_ : Hid (Below w.heap.size w w24) := (unhide BB).trans (hg.toBelow (unhide BB).size (fun g hh => by have q2 := unhide NGD g hh; have z1 := unhide sz1; have z2 := unhide sz2; have z3 := unhide sz3; have z4 := unhide sz4; have z5 := unhide sz5; have z6 := unhide sz6; have z7 := unhide sz7; have z8 := unhide sz8; have z9 := unhide sz9; have z10 := unhide sz10; have z11 := unhide sz11; have z12 := unhide sz12; have z13 := unhide sz13; have z14 := unhide sz14; have z15 := unhide sz15; have z16 := unhide sz16; have z17 := unhide sz17; have z18 := unhide sz18; have z19 := unhide sz19; have z20 := unhide sz20; have z21 := unhide sz21; have z22 := unhide sz22; omega))
  have sz23 := hide hg.size
  clear A
  have A := A_
  clear A_
  clear W
  have W := W_
  clear W_
  clear G
  have G := G_
  clear G_
  clear OW
  have OW := OW_
  clear OW_
  clear OG
  have OG := OG_
  clear OG_
  clear RWD
  have RWD := RWD_
  clear RWD_
  clear BB
  have BB := BB_
  clear BB_
  clear RGD
  have RGD := hide om
  clear om hg hg0
  have j2 : ¬ (1 : Int) + (b2.mails.length : Int) * 4 + (b2.tombs.length : Int) * 2 < 0 := by omega
  have j3 : ¬ (1 : Int) + (b2.mails.length : Int) * 4 + (b2.tombs.length : Int) * 2 + (lD.length : Int) * 2 < 0 := by omega
  have Gc0 := (unhide G).cell 0 rfl
  have Gc1 := (unhide G).cell 1 rfl
  have Gc2 := (unhide G).cell 2 rfl
  have Gc3 := (unhide G).cell 3 rfl
  have Gc4 := (unhide G).cell 4 rfl
  have Gc5 := (unhide G).cell 5 rfl
  have Gc6 := (unhide G).cell 6 rfl
  go_wp2_with fail
  clear Gc0 Gc1 Gc2 Gc3 Gc4 Gc5 Gc6
  refine (heldBox_any b2 _ _ _ 1 _ (unhide AL).1 (unhide AL).2.1 (by decide) (by decide) (unhide OG)).mono ?_
  rintro e w25 ⟨rfl, hb⟩
  have RWD_ := hide ((unhide RWD).up hb)
  clear RWD
  have RWD := RWD_
  clear RWD_
  have RGD_ := hide ((unhide RGD).up hb)
  clear RGD
  have RGD := RGD_
  clear RGD_
  have A_ := hide ((unhide A).ups hb)
  clear A
  have A := A_
  clear A_
  have W_ := hide ((unhide W).ups hb)
  clear W
  have W := W_
  clear W_
  have G_ := hide ((unhide G).ups hb)
  clear G
  have G := G_
  clear G_
  have OW_ := hide ((unhide OW).up hb)
  clear OW
  have OW := OW_
  clear OW_
  have OG_ := hide ((unhide OG).up hb)
  clear OG
  have OG := OG_
  clear OG_
  have sz24 := hide hb.size
  have BB_ := hide (below_y (unhide BB) hb)
  clear BB
  have BB := BB_
  clear BB_ hb
  go_wp2_with fail
  refine (heldR_at lD.length _ _ _ _ (by omega) (by omega) (unhide AL).2.2 (unhide RGD)).mono ?_
  rintro e w26 ⟨rfl, hw⟩
  subst w26
  have Ac0 := (unhide A).cell 0 rfl
  have Ac1 := (unhide A).cell 1 rfl
  have Ac2 := (unhide A).cell 2 rfl
  have Ac3 := (unhide A).cell 3 rfl
  have Ac4 := (unhide A).cell 4 rfl
  have Ac5 := (unhide A).cell 5 rfl
  have Ac6 := (unhide A).cell 6 rfl
  go_wp2_with fail
  clear Ac0 Ac1 Ac2 Ac3 Ac4 Ac5 Ac6
  refine (unhide TB _ (unhide BB)).mono ?_
  rintro e w28 ⟨mQ, tQ, rfl, oQ, hb⟩
  obtain ⟨amQ, cmQ, rfl⟩ := g_shape oQ.1
  obtain ⟨atQ, ctQ, rfl⟩ := g_shape oQ.2
  have NQ := hide (OwnBx.base oQ)
  have OQ := hide oQ
  clear oQ
  have RWD_ := hide ((unhide RWD).up hb)
  clear RWD
  have RWD := RWD_
  clear RWD_
  have RGD_ := hide ((unhide RGD).up hb)
  clear RGD
  have RGD := RGD_
  clear RGD_
  have A_ := hide ((unhide A).ups hb)
  clear A
  have A := A_
  clear A_
  have W_ := hide ((unhide W).ups hb)
  clear W
  have W := W_
  clear W_
  have G_ := hide ((unhide G).ups hb)
  clear G
  have G := G_
  clear G_
  have OW_ := hide ((unhide OW).up hb)
  clear OW
  have OW := OW_
  clear OW_
  have OG_ := hide ((unhide OG).up hb)
  clear OG
  have OG := OG_
  clear OG_
  have sz25 := hide hb.size
  have BB_ := hide (below_y (unhide BB) hb)
  clear BB
  have BB := BB_
  clear BB_ hb
  go_wp2_with fail
  refine (unhide TR _ (unhide BB)).mono ?_
  rintro e w29 ⟨vQS, rfl, oQS, hb⟩
  obtain ⟨aQS, cQS, rfl⟩ := g_shape oQS
  have NQS := hide (fun g (h : Value.ownBlock _ = some g) => World.ownsRow.lt oQS g h)
  have RQS := hide oQS
  clear oQS
  have RWD_ := hide ((unhide RWD).up hb)
  clear RWD
  have RWD := RWD_
  clear RWD_
  have RGD_ := hide ((unhide RGD).up hb)
  clear RGD
  have RGD := RGD_
  clear RGD_
  have A_ := hide ((unhide A).ups hb)
  clear A
  have A := A_
  clear A_
  have W_ := hide ((unhide W).ups hb)
  clear W
  have W := W_
  clear W_
  have G_ := hide ((unhide G).ups hb)
  clear G
  have G := G_
  clear G_
  have OW_ := hide ((unhide OW).up hb)
  clear OW
  have OW := OW_
  clear OW_
  have OG_ := hide ((unhide OG).up hb)
  clear OG
  have OG := OG_
  clear OG_
  have OQ_ := hide ((unhide OQ).up hb)
  clear OQ
  have OQ := OQ_
  clear OQ_
  have sz26 := hide hb.size
  have BB_ := hide (below_y (unhide BB) hb)
  clear BB
  have BB := BB_
  clear BB_ hb
  go_wp2_with fail
  refine (unhide CJ _ _ _ _ _ _ (unhide OQ) (unhide RQS) (unhide BB)).mono ?_
  rintro e w30 ⟨mH, tH, vHD, rfl, oH, oHD, hb⟩
  obtain ⟨amH, cmH, rfl⟩ := g_shape oH.1
  obtain ⟨atH, ctH, rfl⟩ := g_shape oH.2
  obtain ⟨aHD, cHD, rfl⟩ := g_shape oHD
  have NH := hide (OwnBx.base oH)
  have OH := hide oH
  clear oH
  have NHD := hide (fun g (h : Value.ownBlock _ = some g) => World.ownsRow.lt oHD g h)
  have RHD := hide oHD
  clear oHD
  have RWD_ := hide ((unhide RWD).up hb)
  clear RWD
  have RWD := RWD_
  clear RWD_
  have RGD_ := hide ((unhide RGD).up hb)
  clear RGD
  have RGD := RGD_
  clear RGD_
  have RQS_ := hide ((unhide RQS).up hb)
  clear RQS
  have RQS := RQS_
  clear RQS_
  have A_ := hide ((unhide A).ups hb)
  clear A
  have A := A_
  clear A_
  have W_ := hide ((unhide W).ups hb)
  clear W
  have W := W_
  clear W_
  have G_ := hide ((unhide G).ups hb)
  clear G
  have G := G_
  clear G_
  have OW_ := hide ((unhide OW).up hb)
  clear OW
  have OW := OW_
  clear OW_
  have OG_ := hide ((unhide OG).up hb)
  clear OG
  have OG := OG_
  clear OG_
  have OQ_ := hide ((unhide OQ).up hb)
  clear OQ
  have OQ := OQ_
  clear OQ_
  have sz27 := hide hb.size
  have BB_ := hide (below_y (unhide BB) hb)
  clear BB
  have BB := BB_
  clear BB_ hb
  clear OQ
  clear RQS
  obtain ⟨w31, hH⟩ : ∃ X, X = w30.alloc (.cells ([.string b2.name, .int .i64 b2.valid, .int .i64 b2.next, .int .i64 b2.mod, .slice amH b2.mails.length cmH, .slice atH b2.tombs.length ctH, .int .i64 b2.hor] : List Value).toArray 33) := ⟨_, rfl⟩
  have Hx : HasObj w31 w30.heap.size 33 [.string b2.name, .int .i64 b2.valid, .int .i64 b2.next, .int .i64 b2.mod, .slice amH b2.mails.length cmH, .slice atH b2.tombs.length ctH, .int .i64 b2.hor] := by rw [hH]; exact HasObj.new _ _ _
  have hbn : Below w30.heap.size w30 w31 := by rw [hH]; exact (Below.refl _ _).alloc (Nat.le_refl _) _
  have EH := hH.symm
  clear hH
  have RWD_ := hide ((unhide RWD).up hbn)
  clear RWD
  have RWD := RWD_
  clear RWD_
  have RGD_ := hide ((unhide RGD).up hbn)
  clear RGD
  have RGD := RGD_
  clear RGD_
  have RHD_ := hide ((unhide RHD).up hbn)
  clear RHD
  have RHD := RHD_
  clear RHD_
  have A_ := hide ((unhide A).ups hbn)
  clear A
  have A := A_
  clear A_
  have W_ := hide ((unhide W).ups hbn)
  clear W
  have W := W_
  clear W_
  have G_ := hide ((unhide G).ups hbn)
  clear G
  have G := G_
  clear G_
  have OW_ := hide ((unhide OW).up hbn)
  clear OW
  have OW := OW_
  clear OW_
  have OG_ := hide ((unhide OG).up hbn)
  clear OG
  have OG := OG_
  clear OG_
  have OH_ := hide ((unhide OH).up hbn)
  clear OH
  have OH := OH_
  clear OH_
  have sz28 := hide hbn.size
  have BB_ := hide (below_y (unhide BB) hbn)
  clear BB
  have BB := BB_
  clear BB_ hbn
  have H := hide Hx
  clear Hx
  have Hc0 := (unhide H).cell 0 rfl
  have Hc1 := (unhide H).cell 1 rfl
  have Hc2 := (unhide H).cell 2 rfl
  have Hc3 := (unhide H).cell 3 rfl
  have Hc4 := (unhide H).cell 4 rfl
  have Hc5 := (unhide H).cell 5 rfl
  have Hc6 := (unhide H).cell 6 rfl
  have Wc0 := (unhide W).cell 0 rfl
  have Wc1 := (unhide W).cell 1 rfl
  have Wc2 := (unhide W).cell 2 rfl
  have Wc3 := (unhide W).cell 3 rfl
  have Wc4 := (unhide W).cell 4 rfl
  have Wc5 := (unhide W).cell 5 rfl
  have Wc6 := (unhide W).cell 6 rfl
  go_wp2_with fail
  clear Hc0 Hc1 Hc2 Hc3 Hc4 Hc5 Hc6 Wc0 Wc1 Wc2 Wc3 Wc4 Wc5 Wc6
  refine (eqBox_same b2 _ _ _ _ _ _ _ (unhide AL).1 (unhide AL).2.1 (unhide OH) (unhide OW)).mono ?_
  rintro e w32 ⟨rfl, hb⟩
  have RWD_ := hide ((unhide RWD).up hb)
  clear RWD
  have RWD := RWD_
  clear RWD_
  have RGD_ := hide ((unhide RGD).up hb)
  clear RGD
  have RGD := RGD_
  clear RGD_
  have RHD_ := hide ((unhide RHD).up hb)
  clear RHD
  have RHD := RHD_
  clear RHD_
  have A_ := hide ((unhide A).ups hb)
  clear A
  have A := A_
  clear A_
  have W_ := hide ((unhide W).ups hb)
  clear W
  have W := W_
  clear W_
  have G_ := hide ((unhide G).ups hb)
  clear G
  have G := G_
  clear G_
  have H_ := hide ((unhide H).ups hb)
  clear H
  have H := H_
  clear H_
  have OW_ := hide ((unhide OW).up hb)
  clear OW
  have OW := OW_
  clear OW_
  have OG_ := hide ((unhide OG).up hb)
  clear OG
  have OG := OG_
  clear OG_
  have OH_ := hide ((unhide OH).up hb)
  clear OH
  have OH := OH_
  clear OH_
  have sz29 := hide hb.size
  have BB_ := hide (below_y (unhide BB) hb)
  clear BB
  have BB := BB_
  clear BB_ hb
  go_wp2_with fail
  refine (eqRangeS_same lD _ _ _ _ _ ((unhide AL).2.2) (unhide RHD) (unhide RWD)).mono ?_
  rintro e w33 ⟨rfl, hb⟩
  have RWD_ := hide ((unhide RWD).up hb)
  clear RWD
  have RWD := RWD_
  clear RWD_
  have RGD_ := hide ((unhide RGD).up hb)
  clear RGD
  have RGD := RGD_
  clear RGD_
  have RHD_ := hide ((unhide RHD).up hb)
  clear RHD
  have RHD := RHD_
  clear RHD_
  have A_ := hide ((unhide A).ups hb)
  clear A
  have A := A_
  clear A_
  have W_ := hide ((unhide W).ups hb)
  clear W
  have W := W_
  clear W_
  have G_ := hide ((unhide G).ups hb)
  clear G
  have G := G_
  clear G_
  have H_ := hide ((unhide H).ups hb)
  clear H
  have H := H_
  clear H_
  have OW_ := hide ((unhide OW).up hb)
  clear OW
  have OW := OW_
  clear OW_
  have OG_ := hide ((unhide OG).up hb)
  clear OG
  have OG := OG_
  clear OG_
  have OH_ := hide ((unhide OH).up hb)
  clear OH
  have OH := OH_
  clear OH_
  have sz30 := hide hb.size
  have BB_ := hide (below_y (unhide BB) hb)
  clear BB
  have BB := BB_
  clear BB_ hb
  clear EH
  have Gc0 := (unhide G).cell 0 rfl
  have Gc1 := (unhide G).cell 1 rfl
  have Gc2 := (unhide G).cell 2 rfl
  have Gc3 := (unhide G).cell 3 rfl
  have Gc4 := (unhide G).cell 4 rfl
  have Gc5 := (unhide G).cell 5 rfl
  have Gc6 := (unhide G).cell 6 rfl
  go_wp2_with fail
  clear Gc0 Gc1 Gc2 Gc3 Gc4 Gc5 Gc6
  refine (heldBox_any b2 _ _ _ 1 _ (unhide AL).1 (unhide AL).2.1 (by decide) (by decide) (unhide OG)).mono ?_
  rintro e w34 ⟨rfl, hb⟩
  have RWD_ := hide ((unhide RWD).up hb)
  clear RWD
  have RWD := RWD_
  clear RWD_
  have RGD_ := hide ((unhide RGD).up hb)
  clear RGD
  have RGD := RGD_
  clear RGD_
  have RHD_ := hide ((unhide RHD).up hb)
  clear RHD
  have RHD := RHD_
  clear RHD_
  have A_ := hide ((unhide A).ups hb)
  clear A
  have A := A_
  clear A_
  have W_ := hide ((unhide W).ups hb)
  clear W
  have W := W_
  clear W_
  have G_ := hide ((unhide G).ups hb)
  clear G
  have G := G_
  clear G_
  have H_ := hide ((unhide H).ups hb)
  clear H
  have H := H_
  clear H_
  have OW_ := hide ((unhide OW).up hb)
  clear OW
  have OW := OW_
  clear OW_
  have OG_ := hide ((unhide OG).up hb)
  clear OG
  have OG := OG_
  clear OG_
  have OH_ := hide ((unhide OH).up hb)
  clear OH
  have OH := OH_
  clear OH_
  have sz31 := hide hb.size
  have BB_ := hide (below_y (unhide BB) hb)
  clear BB
  have BB := BB_
  clear BB_ hb
  go_wp2_with fail
  refine (heldR_at lD.length _ _ _ _ (by omega) (by omega) (unhide AL).2.2 (unhide RGD)).mono ?_
  rintro e w35 ⟨rfl, hw⟩
  subst w35
  go_wp2
  go_ret
  exact ⟨rfl, unhide BB⟩
end Go.Proofs.YtmedhmgihfenhabGreat
