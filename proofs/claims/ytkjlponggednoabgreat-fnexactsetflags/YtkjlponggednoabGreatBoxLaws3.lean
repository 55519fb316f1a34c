/- The walk of FnExactSetFlags, over whatever contract of the program's own function. Made by gen_boxlaws3.py. -/
import Derived.Test.YtkjlponggednoabGreatBoxP
import Derived.Test.YtkjlponggednoabGreatBoxA
import Derived.Test.YtkjlponggednoabGreatRangeMarks
import Derived.Test.YtkjlponggednoabGreatRegA
namespace Go.Proofs.YtkjlponggednoabGreat
open Go.RowKit
open Plain
set_option linter.unusedVariables false

theorem OwnR.drew {B : Nat} {W : World} {v : Value} {l : List Rg} (h : OwnR B W v l) : OwnR B W.drew v l := h
theorem markR_at (l : List Rg) (v : Value) (B : Nat) (w : World) (k : Int) (h0 : 0 ≤ k) (h1 : k ≤ 100000000) (hs : l.length ≤ 1048576) (h : OwnR B w v l) :
    Calls Tryz.prog 14 #[v, .int .i64 k] w fun e w' => e = .returned (.int .i64 (k + (l.length : Int) * 2)) ∧ OwnR B w' v (marksR k.toNat l.length) ∧ w.grownBy w' v.ownBlock := by
  obtain ⟨n, rfl⟩ : ∃ n : Nat, k = (n : Int) := ⟨k.toNat, by omega⟩
  have := markRangeS_any l v B n w hs (by omega) h
  rw [Int.toNat_natCast]
  refine this.mono fun e w' ⟨h1, h2, h3⟩ => ⟨?_, h2, h3⟩
  rw [h1]
  simp
theorem heldR_at (n : Nat) (v : Value) (B : Nat) (w : World) (k : Int) (h0 : 0 ≤ k) (h1 : k ≤ 100000000) (hs : n ≤ 1048576) (h : OwnR B w v (marksR k.toNat n)) :
    Calls Tryz.prog 16 #[v, .int .i64 k] w fun e w' => e = .returned (.int .i64 (k + (n : Int) * 2)) ∧ w' = w := by
  obtain ⟨q, rfl⟩ : ∃ n : Nat, k = (n : Int) := ⟨k.toNat, by omega⟩
  rw [Int.toNat_natCast] at h
  refine (heldRangeS_any n v B q w hs (by omega) h).mono fun e w' ⟨h1, h2⟩ => ⟨?_, h2⟩
  rw [h1]
  simp
namespace Plain
theorem flagsV_len (b : Bx) (s : List Rg) (how bits since : Int) (h1 : b.mails.length ≤ 1048576) (h2 : b.tombs.length ≤ 1048576) : (flagsV b s how bits since).1.mails.length ≤ 1048576 ∧ (flagsV b s how bits since).1.tombs.length ≤ 1048576 ∧ (flagsV b s how bits since).2.1.length ≤ 1048576 ∧ (flagsV b s how bits since).2.2.length ≤ 1048576 := by
  unfold flagsV
  split
  · have h9 := fg_len b s how bits since b.mails.length (Nat.le_refl _)
    rw [fg_all] at h9
    exact ⟨by show (fgOf b s how bits since).ms.length ≤ _; omega, h2, by show (fgOf b s how bits since).done.length ≤ _; omega, by show (fgOf b s how bits since).late.length ≤ _; omega⟩
  · exact ⟨h1, h2, by simp, by simp⟩
end Plain

set_option maxHeartbeats 16000000 in
set_option maxRecDepth 100000 in
theorem FnExactSetFlags_walk (b : Bx) (a1 a2 : Option Addr) (c1 c2 : Nat) (a3 : Option Addr) (c3 : Nat) (s : List Rg) (how bits since : Int) (w : World) (h : ArgBx w.heap.size w a1 a2 b) (m3 : s.length ≤ maxLen) (h3 : ArgR w.heap.size w a3 s)
    (CI : ∀ (m t vs : Value) (B B2 : Nat) (W : World), SmallBx 1048576 b → s.length ≤ 1048576 → OwnBx B W m t b → OwnR B2 W vs s → Below w.heap.size w W → Calls Tryz.prog 10 #[boxV b m t, vs, .int .i64 how, .int .i64 bits, .int .i64 since] W fun e w' => ∃ m' t' vD vL, e = .returned (.tuple #[boxV (flagsV b s how bits since).1 m' t', vD, vL]) ∧ OwnBx W.heap.size w' m' t' (flagsV b s how bits since).1 ∧ OwnR W.heap.size w' vD (flagsV b s how bits since).2.1 ∧ OwnR W.heap.size w' vL (flagsV b s how bits since).2.2 ∧ (∀ x, vD.ownBlock = some x → vL.ownBlock ≠ some x) ∧ Below W.heap.size W w')
    (SI : ∀ (m t vs : Value) (B B2 : Nat) (W : World), SmallBx 1048576 b → s.length ≤ 1048576 → OwnBx B W m t b → OwnR B2 W vs s → Calls Tryz.prog 7 #[boxV b m t, vs, .int .i64 how, .int .i64 bits, .int .i64 since] W fun e w' => ∃ m' t' vD vL, e = .returned (.tuple #[boxV (flagsV b s how bits since).1 m' t', vD, vL]) ∧ OwnBx W.heap.size w' m' t' (flagsV b s how bits since).1 ∧ OwnR W.heap.size w' vD (flagsV b s how bits since).2.1 ∧ OwnR W.heap.size w' vL (flagsV b s how bits since).2.2 ∧ Below W.heap.size W w') :
    Calls Tryz.prog 3 #[.agg #[.string b.name, .int .i64 b.valid, .int .i64 b.next, .int .i64 b.mod, .slice a1 b.mails.length c1, .slice a2 b.tombs.length c2, .int .i64 b.hor], .slice a3 s.length c3, .int .i64 how, .int .i64 bits, .int .i64 since] w fun e w' => e = .returned (.bool true) ∧ Below w.heap.size w w' := by
  have BB := hide (Below.refl w.heap.size w)
  have HA := hide h
  have CH := hide CI
  have H3 := hide h3
  have SI := hide SI
  clear h h3 CI
  obtain ⟨w1, hA⟩ : ∃ X, X = w.alloc (.cells ([.string b.name, .int .i64 b.valid, .int .i64 b.next, .int .i64 b.mod, .slice a1 b.mails.length c1, .slice a2 b.tombs.length c2, .int .i64 b.hor] : List Value).toArray 25) := ⟨_, rfl⟩
  have Ax : HasObj w1 w.heap.size 25 [.string b.name, .int .i64 b.valid, .int .i64 b.next, .int .i64 b.mod, .slice a1 b.mails.length c1, .slice a2 b.tombs.length c2, .int .i64 b.hor] := by rw [hA]; exact HasObj.new _ _ _
  have hbn : Below w.heap.size w w1 := by rw [hA]; exact (Below.refl _ _).alloc (Nat.le_refl _) _
  have EA := hA.symm
  clear hA
  have sz1 := hide hbn.size
  have BB_ := hide (below_y (unhide BB) hbn)
  clear BB
  have BB := BB_
  clear BB_ hbn
  have A := hide Ax
  clear Ax
  have SZ := hide (szBox_any b a1 a2 c1 c2 w1 ((unhide HA).up (unhide BB)))
  have Ac0 := (unhide A).cell 0 rfl
  have Ac1 := (unhide A).cell 1 rfl
  have Ac2 := (unhide A).cell 2 rfl
  have Ac3 := (unhide A).cell 3 rfl
  have Ac4 := (unhide A).cell 4 rfl
  have Ac5 := (unhide A).cell 5 rfl
  have Ac6 := (unhide A).cell 6 rfl
  go_enter Tryz.func3, Tryz.ntmps3
  go_wp2_with fail
  clear Ac0 Ac1 Ac2 Ac3 Ac4 Ac5 Ac6
  clear EA
  refine (unhide SZ).mono ?_
  rintro e wz ⟨⟨q, rfl, hq⟩, hb⟩
  have A_ := hide ((unhide A).ups hb)
  clear A
  have A := A_
  clear A_
  have sz2 := hide hb.size
  have BB_ := hide (below_y (unhide BB) hb)
  clear BB
  have BB := BB_
  clear BB_ hb
  clear SZ
  rcases hq with rfl | ⟨q, rfl, hq, hsm⟩
  · go_wp2
    go_ret
    exact ⟨rfl, unhide BB⟩
  have i1 : ¬ (q : Int) < 0 := by omega
  have SM := hide hsm
  clear hsm
  go_wp2_with fail
  refine (szRangeS_any a3 c3 s.length q _ hq m3).mono ?_
  rintro e wy ⟨⟨r, rfl, hr⟩, hw⟩
  subst wy
  rcases hr with rfl | ⟨r, rfl, hr, hsl⟩
  · go_wp2
    go_ret
    exact ⟨rfl, unhide BB⟩
  have i2 : ¬ (r : Int) < 0 := by omega
  have hs : s.length ≤ 1048576 := by omega
  clear hsl
  have TB := hide (fun (W : World) (hb : Below w.heap.size w W) => toBox_any b a1 a2 c1 c2 W (unhide SM) ((unhide HA).up hb))
  have TR := hide (fun (W : World) (hb : Below w.heap.size w W) => toRangeS_any a3 c3 s W hs ((unhide H3).up hb))
  have AL := hide (flagsV_len b s how bits since (unhide SM).2.1.1 (unhide SM).2.2)
  have SA := hide (fun (m t vs : Value) (B B2 : Nat) (W : World) (h : OwnBx B W m t b) (h2 : OwnR B2 W vs s) => unhide SI m t vs B B2 W (unhide SM) hs h h2)
  have CJ := hide (fun (m t vs : Value) (B B2 : Nat) (W : World) (h : OwnBx B W m t b) (h2 : OwnR B2 W vs s) (hb : Below w.heap.size w W) => unhide CH m t vs B B2 W (unhide SM) hs h h2 hb)
  clear CH SI
  generalize flagsV b s how bits since = an at *
  obtain ⟨b2, lD, lL⟩ := an
  simp only at SA CJ AL
  have Ac0 := (unhide A).cell 0 rfl
  have Ac1 := (unhide A).cell 1 rfl
  have Ac2 := (unhide A).cell 2 rfl
  have Ac3 := (unhide A).cell 3 rfl
  have Ac4 := (unhide A).cell 4 rfl
  have Ac5 := (unhide A).cell 5 rfl
  have Ac6 := (unhide A).cell 6 rfl
  go_wp2_with fail
  clear Ac0 Ac1 Ac2 Ac3 Ac4 Ac5 Ac6
  refine (unhide TB _ (unhide BB)).mono ?_
  rintro e w3 ⟨mP, tP, rfl, oP, hb⟩
  obtain ⟨amP, cmP, rfl⟩ := g_shape oP.1
  obtain ⟨atP, ctP, rfl⟩ := g_shape oP.2
  have NP := hide (OwnBx.base oP)
  have OP := hide oP
  clear oP
  have A_ := hide ((unhide A).ups hb)
  clear A
  have A := A_
  clear A_
  have sz3 := hide hb.size
  have BB_ := hide (below_y (unhide BB) hb)
  clear BB
  have BB := BB_
  clear BB_ hb
  go_wp2_with fail
  refine (unhide TR _ (unhide BB)).mono ?_
  rintro e w4 ⟨vPS, rfl, oPS, hb⟩
  obtain ⟨aPS, cPS, rfl⟩ := g_shape oPS
  have NPS := hide (fun g (h : Value.ownBlock _ = some g) => World.ownsRow.lt oPS g h)
  have RPS := hide oPS
  clear oPS
  have A_ := hide ((unhide A).ups hb)
  clear A
  have A := A_
  clear A_
  have OP_ := hide ((unhide OP).up hb)
  clear OP
  have OP := OP_
  clear OP_
  have sz4 := hide hb.size
  have BB_ := hide (below_y (unhide BB) hb)
  clear BB
  have BB := BB_
  clear BB_ hb
  go_wp2_with fail
  refine (unhide SA _ _ _ _ _ _ (unhide OP) (unhide RPS)).mono ?_
  rintro e w5 ⟨mW, tW, vWD, vWL, rfl, oW, oWD, oWL, hb⟩
  obtain ⟨amW, cmW, rfl⟩ := g_shape oW.1
  obtain ⟨atW, ctW, rfl⟩ := g_shape oW.2
  obtain ⟨aWD, cWD, rfl⟩ := g_shape oWD
  obtain ⟨aWL, cWL, rfl⟩ := g_shape oWL
  have NW := hide (OwnBx.base oW)
  have OW := hide oW
  clear oW
  have NWD := hide (fun g (h : Value.ownBlock _ = some g) => World.ownsRow.lt oWD g h)
  have RWD := hide oWD
  clear oWD
  have NWL := hide (fun g (h : Value.ownBlock _ = some g) => World.ownsRow.lt oWL g h)
  have RWL := hide oWL
  clear oWL
  have RPS_ := hide ((unhide RPS).up hb)
  clear RPS
  have RPS := RPS_
  clear RPS_
  have A_ := hide ((unhide A).ups hb)
  clear A
  have A := A_
  clear A_
  have OP_ := hide ((unhide OP).up hb)
  clear OP
  have OP := OP_
  clear OP_
  have sz5 := hide hb.size
  have BB_ := hide (below_y (unhide BB) hb)
  clear BB
  have BB := BB_
  clear BB_ hb
  clear OP
  clear RPS
  obtain ⟨w6, hW⟩ : ∃ X, X = w5.alloc (.cells ([.string b2.name, .int .i64 b2.valid, .int .i64 b2.next, .int .i64 b2.mod, .slice amW b2.mails.length cmW, .slice atW b2.tombs.length ctW, .int .i64 b2.hor] : List Value).toArray 32) := ⟨_, rfl⟩
  have Wx : HasObj w6 w5.heap.size 32 [.string b2.name, .int .i64 b2.valid, .int .i64 b2.next, .int .i64 b2.mod, .slice amW b2.mails.length cmW, .slice atW b2.tombs.length ctW, .int .i64 b2.hor] := by rw [hW]; exact HasObj.new _ _ _
  have hbn : Below w5.heap.size w5 w6 := by rw [hW]; exact (Below.refl _ _).alloc (Nat.le_refl _) _
  have EW := hW.symm
  clear hW
  have RWD_ := hide ((unhide RWD).up hbn)
  clear RWD
  have RWD := RWD_
  clear RWD_
  have RWL_ := hide ((unhide RWL).up hbn)
  clear RWL
  have RWL := RWL_
  clear RWL_
  have A_ := hide ((unhide A).ups hbn)
  clear A
  have A := A_
  clear A_
  have OW_ := hide ((unhide OW).up hbn)
  clear OW
  have OW := OW_
  clear OW_
  have sz6 := hide hbn.size
  have BB_ := hide (below_y (unhide BB) hbn)
  clear BB
  have BB := BB_
  clear BB_ hbn
  have W := hide Wx
  clear Wx
  have Ac0 := (unhide A).cell 0 rfl
  have Ac1 := (unhide A).cell 1 rfl
  have Ac2 := (unhide A).cell 2 rfl
  have Ac3 := (unhide A).cell 3 rfl
  have Ac4 := (unhide A).cell 4 rfl
  have Ac5 := (unhide A).cell 5 rfl
  have Ac6 := (unhide A).cell 6 rfl
  go_wp2_with fail
  clear Ac0 Ac1 Ac2 Ac3 Ac4 Ac5 Ac6
  refine (unhide TB _ (unhide BB)).mono ?_
  rintro e w8 ⟨mX, tX, rfl, oX, hb⟩
  obtain ⟨amX, cmX, rfl⟩ := g_shape oX.1
  obtain ⟨atX, ctX, rfl⟩ := g_shape oX.2
  have NX := hide (OwnBx.base oX)
  have OX := hide oX
  clear oX
  have RWD_ := hide ((unhide RWD).up hb)
  clear RWD
  have RWD := RWD_
  clear RWD_
  have RWL_ := hide ((unhide RWL).up hb)
  clear RWL
  have RWL := RWL_
  clear RWL_
  have A_ := hide ((unhide A).ups hb)
  clear A
  have A := A_
  clear A_
  have W_ := hide ((unhide W).ups hb)
  clear W
  have W := W_
  clear W_
  have OW_ := hide ((unhide OW).up hb)
  clear OW
  have OW := OW_
  clear OW_
  have sz7 := hide hb.size
  have BB_ := hide (below_y (unhide BB) hb)
  clear BB
  have BB := BB_
  clear BB_ hb
  clear EW
  obtain ⟨w9, hX⟩ : ∃ X, X = w8.alloc (.cells ([.string b.name, .int .i64 b.valid, .int .i64 b.next, .int .i64 b.mod, .slice amX b.mails.length cmX, .slice atX b.tombs.length ctX, .int .i64 b.hor] : List Value).toArray 32) := ⟨_, rfl⟩
  have Xx : HasObj w9 w8.heap.size 32 [.string b.name, .int .i64 b.valid, .int .i64 b.next, .int .i64 b.mod, .slice amX b.mails.length cmX, .slice atX b.tombs.length ctX, .int .i64 b.hor] := by rw [hX]; exact HasObj.new _ _ _
  have hbn : Below w8.heap.size w8 w9 := by rw [hX]; exact (Below.refl _ _).alloc (Nat.le_refl _) _
  have EX := hX.symm
  clear hX
  have RWD_ := hide ((unhide RWD).up hbn)
  clear RWD
  have RWD := RWD_
  clear RWD_
  have RWL_ := hide ((unhide RWL).up hbn)
  clear RWL
  have RWL := RWL_
  clear RWL_
  have A_ := hide ((unhide A).ups hbn)
  clear A
  have A := A_
  clear A_
  have W_ := hide ((unhide W).ups hbn)
  clear W
  have W := W_
  clear W_
  have OW_ := hide ((unhide OW).up hbn)
  clear OW
  have OW := OW_
  clear OW_
  have OX_ := hide ((unhide OX).up hbn)
  clear OX
  have OX := OX_
  clear OX_
  have sz8 := hide hbn.size
  have BB_ := hide (below_y (unhide BB) hbn)
  clear BB
  have BB := BB_
  clear BB_ hbn
  have X := hide Xx
  clear Xx
  go_wp2_with fail
  refine (unhide TR _ (unhide BB)).mono ?_
  rintro e w10 ⟨vXS, rfl, oXS, hb⟩
  obtain ⟨aXS, cXS, rfl⟩ := g_shape oXS
  have NXS := hide (fun g (h : Value.ownBlock _ = some g) => World.ownsRow.lt oXS g h)
  have RXS := hide oXS
  clear oXS
  have RWD_ := hide ((unhide RWD).up hb)
  clear RWD
  have RWD := RWD_
  clear RWD_
  have RWL_ := hide ((unhide RWL).up hb)
  clear RWL
  have RWL := RWL_
  clear RWL_
  have A_ := hide ((unhide A).ups hb)
  clear A
  have A := A_
  clear A_
  have W_ := hide ((unhide W).ups hb)
  clear W
  have W := W_
  clear W_
  have X_ := hide ((unhide X).ups hb)
  clear X
  have X := X_
  clear X_
  have OW_ := hide ((unhide OW).up hb)
  clear OW
  have OW := OW_
  clear OW_
  have OX_ := hide ((unhide OX).up hb)
  clear OX
  have OX := OX_
  clear OX_
  have sz9 := hide hb.size
  have BB_ := hide (below_y (unhide BB) hb)
  clear BB
  have BB := BB_
  clear BB_ hb
  clear EX
  have Xc0 := (unhide X).cell 0 rfl
  have Xc1 := (unhide X).cell 1 rfl
  have Xc2 := (unhide X).cell 2 rfl
  have Xc3 := (unhide X).cell 3 rfl
  have Xc4 := (unhide X).cell 4 rfl
  have Xc5 := (unhide X).cell 5 rfl
  have Xc6 := (unhide X).cell 6 rfl
  go_wp2_with fail
  clear Xc0 Xc1 Xc2 Xc3 Xc4 Xc5 Xc6
  refine (unhide CJ _ _ _ _ _ _ (unhide OX) (unhide RXS) (unhide BB)).mono ?_
  rintro e w11 ⟨mG, tG, vGD, vGL, rfl, oG, oGD, oGL, sep, hb⟩
  obtain ⟨amG, cmG, rfl⟩ := g_shape oG.1
  obtain ⟨atG, ctG, rfl⟩ := g_shape oG.2
  obtain ⟨aGD, cGD, rfl⟩ := g_shape oGD
  obtain ⟨aGL, cGL, rfl⟩ := g_shape oGL
  have NG := hide (OwnBx.base oG)
  have OG := hide oG
  clear oG
  have NGD := hide (fun g (h : Value.ownBlock _ = some g) => World.ownsRow.lt oGD g h)
  have RGD := hide oGD
  clear oGD
  have NGL := hide (fun g (h : Value.ownBlock _ = some g) => World.ownsRow.lt oGL g h)
  have RGL := hide oGL
  clear oGL
  have SEPG := hide sep
  clear sep
  have RWD_ := hide ((unhide RWD).up hb)
  clear RWD
  have RWD := RWD_
  clear RWD_
  have RWL_ := hide ((unhide RWL).up hb)
  clear RWL
  have RWL := RWL_
  clear RWL_
  have RXS_ := hide ((unhide RXS).up hb)
  clear RXS
  have RXS := RXS_
  clear RXS_
  have A_ := hide ((unhide A).ups hb)
  clear A
  have A := A_
  clear A_
  have W_ := hide ((unhide W).ups hb)
  clear W
  have W := W_
  clear W_
  have X_ := hide ((unhide X).ups hb)
  clear X
  have X := X_
  clear X_
  have OW_ := hide ((unhide OW).up hb)
  clear OW
  have OW := OW_
  clear OW_
  have OX_ := hide ((unhide OX).up hb)
  clear OX
  have OX := OX_
  clear OX_
  have sz10 := hide hb.size
  have BB_ := hide (below_y (unhide BB) hb)
  clear BB
  have BB := BB_
  clear BB_ hb
  obtain ⟨w12, hG⟩ : ∃ X, X = w11.alloc (.cells ([.string b2.name, .int .i64 b2.valid, .int .i64 b2.next, .int .i64 b2.mod, .slice amG b2.mails.length cmG, .slice atG b2.tombs.length ctG, .int .i64 b2.hor] : List Value).toArray 32) := ⟨_, rfl⟩
  have Gx : HasObj w12 w11.heap.size 32 [.string b2.name, .int .i64 b2.valid, .int .i64 b2.next, .int .i64 b2.mod, .slice amG b2.mails.length cmG, .slice atG b2.tombs.length ctG, .int .i64 b2.hor] := by rw [hG]; exact HasObj.new _ _ _
  have hbn : Below w11.heap.size w11 w12 := by rw [hG]; exact (Below.refl _ _).alloc (Nat.le_refl _) _
  have EG := hG.symm
  clear hG
  have RWD_ := hide ((unhide RWD).up hbn)
  clear RWD
  have RWD := RWD_
  clear RWD_
  have RWL_ := hide ((unhide RWL).up hbn)
  clear RWL
  have RWL := RWL_
  clear RWL_
  have RXS_ := hide ((unhide RXS).up hbn)
  clear RXS
  have RXS := RXS_
  clear RXS_
  have RGD_ := hide ((unhide RGD).up hbn)
  clear RGD
  have RGD := RGD_
  clear RGD_
  have RGL_ := hide ((unhide RGL).up hbn)
  clear RGL
  have RGL := RGL_
  clear RGL_
  have A_ := hide ((unhide A).ups hbn)
  clear A
  have A := A_
  clear A_
  have W_ := hide ((unhide W).ups hbn)
  clear W
  have W := W_
  clear W_
  have X_ := hide ((unhide X).ups hbn)
  clear X
  have X := X_
  clear X_
  have OW_ := hide ((unhide OW).up hbn)
  clear OW
  have OW := OW_
  clear OW_
  have OX_ := hide ((unhide OX).up hbn)
  clear OX
  have OX := OX_
  clear OX_
  have OG_ := hide ((unhide OG).up hbn)
  clear OG
  have OG := OG_
  clear OG_
  have sz11 := hide hbn.size
  have BB_ := hide (below_y (unhide BB) hbn)
  clear BB
  have BB := BB_
  clear BB_ hbn
  have G := hide Gx
  clear Gx
  have Gc0 := (unhide G).cell 0 rfl
  have Gc1 := (unhide G).cell 1 rfl
  have Gc2 := (unhide G).cell 2 rfl
  have Gc3 := (unhide G).cell 3 rfl
  have Gc4 := (unhide G).cell 4 rfl
  have Gc5 := (unhide G).cell 5 rfl
  have Gc6 := (unhide G).cell 6 rfl
  have Wc0 := (unhide W).cell 0 rfl
  have Wc1 := (unhide W).cell 1 rfl
  have Wc2 := (unhide W).cell 2 rfl
  have Wc3 := (unhide W).cell 3 rfl
  have Wc4 := (unhide W).cell 4 rfl
  have Wc5 := (unhide W).cell 5 rfl
  have Wc6 := (unhide W).cell 6 rfl
  go_wp2_with fail
  clear Gc0 Gc1 Gc2 Gc3 Gc4 Gc5 Gc6 Wc0 Wc1 Wc2 Wc3 Wc4 Wc5 Wc6
  refine (eqBox_same b2 _ _ _ _ _ _ _ (unhide AL).1 (unhide AL).2.1 (unhide OG) (unhide OW)).mono ?_
  rintro e w13 ⟨rfl, hb⟩
  have RWD_ := hide ((unhide RWD).up hb)
  clear RWD
  have RWD := RWD_
  clear RWD_
  have RWL_ := hide ((unhide RWL).up hb)
  clear RWL
  have RWL := RWL_
  clear RWL_
  have RXS_ := hide ((unhide RXS).up hb)
  clear RXS
  have RXS := RXS_
  clear RXS_
  have RGD_ := hide ((unhide RGD).up hb)
  clear RGD
  have RGD := RGD_
  clear RGD_
  have RGL_ := hide ((unhide RGL).up hb)
  clear RGL
  have RGL := RGL_
  clear RGL_
  have A_ := hide ((unhide A).ups hb)
  clear A
  have A := A_
  clear A_
  have W_ := hide ((unhide W).ups hb)
  clear W
  have W := W_
  clear W_
  have X_ := hide ((unhide X).ups hb)
  clear X
  have X := X_
  clear X_
  have G_ := hide ((unhide G).ups hb)
  clear G
  have G := G_
  clear G_
  have OW_ := hide ((unhide OW).up hb)
  clear OW
  have OW := OW_
  clear OW_
  have OX_ := hide ((unhide OX).up hb)
  clear OX
  have OX := OX_
  clear OX_
  have OG_ := hide ((unhide OG).up hb)
  clear OG
  have OG := OG_
  clear OG_
  have sz12 := hide hb.size
  have BB_ := hide (below_y (unhide BB) hb)
  clear BB
  have BB := BB_
  clear BB_ hb
  go_wp2_with fail
  refine (eqRangeS_same lD _ _ _ _ _ ((unhide AL).2.2.1) (unhide RGD) (unhide RWD)).mono ?_
  rintro e w14 ⟨rfl, hb⟩
  have RWD_ := hide ((unhide RWD).up hb)
  clear RWD
  have RWD := RWD_
  clear RWD_
  have RWL_ := hide ((unhide RWL).up hb)
  clear RWL
  have RWL := RWL_
  clear RWL_
  have RXS_ := hide ((unhide RXS).up hb)
  clear RXS
  have RXS := RXS_
  clear RXS_
  have RGD_ := hide ((unhide RGD).up hb)
  clear RGD
  have RGD := RGD_
  clear RGD_
  have RGL_ := hide ((unhide RGL).up hb)
  clear RGL
  have RGL := RGL_
  clear RGL_
  have A_ := hide ((unhide A).ups hb)
  clear A
  have A := A_
  clear A_
  have W_ := hide ((unhide W).ups hb)
  clear W
  have W := W_
  clear W_
  have X_ := hide ((unhide X).ups hb)
  clear X
  have X := X_
  clear X_
  have G_ := hide ((unhide G).ups hb)
  clear G
  have G := G_
  clear G_
  have OW_ := hide ((unhide OW).up hb)
  clear OW
  have OW := OW_
  clear OW_
  have OX_ := hide ((unhide OX).up hb)
  clear OX
  have OX := OX_
  clear OX_
  have OG_ := hide ((unhide OG).up hb)
  clear OG
  have OG := OG_
  clear OG_
  have sz13 := hide hb.size
  have BB_ := hide (below_y (unhide BB) hb)
  clear BB
  have BB := BB_
  clear BB_ hb
  go_wp2_with fail
  refine (eqRangeS_same lL _ _ _ _ _ ((unhide AL).2.2.2) (unhide RGL) (unhide RWL)).mono ?_
  rintro e w15 ⟨rfl, hb⟩
  have RWD_ := hide ((unhide RWD).up hb)
  clear RWD
  have RWD := RWD_
  clear RWD_
  have RWL_ := hide ((unhide RWL).up hb)
  clear RWL
  have RWL := RWL_
  clear RWL_
  have RXS_ := hide ((unhide RXS).up hb)
  clear RXS
  have RXS := RXS_
  clear RXS_
  have RGD_ := hide ((unhide RGD).up hb)
  clear RGD
  have RGD := RGD_
  clear RGD_
  have RGL_ := hide ((unhide RGL).up hb)
  clear RGL
  have RGL := RGL_
  clear RGL_
  have A_ := hide ((unhide A).ups hb)
  clear A
  have A := A_
  clear A_
  have W_ := hide ((unhide W).ups hb)
  clear W
  have W := W_
  clear W_
  have X_ := hide ((unhide X).ups hb)
  clear X
  have X := X_
  clear X_
  have G_ := hide ((unhide G).ups hb)
  clear G
  have G := G_
  clear G_
  have OW_ := hide ((unhide OW).up hb)
  clear OW
  have OW := OW_
  clear OW_
  have OX_ := hide ((unhide OX).up hb)
  clear OX
  have OX := OX_
  clear OX_
  have OG_ := hide ((unhide OG).up hb)
  clear OG
  have OG := OG_
  clear OG_
  have sz14 := hide hb.size
  have BB_ := hide (below_y (unhide BB) hb)
  clear BB
  have BB := BB_
  clear BB_ hb
  clear EG
  have Xc0 := (unhide X).cell 0 rfl
  have Xc1 := (unhide X).cell 1 rfl
  have Xc2 := (unhide X).cell 2 rfl
  have Xc3 := (unhide X).cell 3 rfl
  have Xc4 := (unhide X).cell 4 rfl
  have Xc5 := (unhide X).cell 5 rfl
  have Xc6 := (unhide X).cell 6 rfl
  have Ac0 := (unhide A).cell 0 rfl
  have Ac1 := (unhide A).cell 1 rfl
  have Ac2 := (unhide A).cell 2 rfl
  have Ac3 := (unhide A).cell 3 rfl
  have Ac4 := (unhide A).cell 4 rfl
  have Ac5 := (unhide A).cell 5 rfl
  have Ac6 := (unhide A).cell 6 rfl
  go_wp2
  refine wp_region_held_drew (S := fun w' => w'.cell? ⟨w8.heap.size, 0, none⟩ = some (.string b.name) ∧ w'.cell? ⟨w8.heap.size, 1, none⟩ = some (.int .i64 b.valid) ∧ w'.cell? ⟨w8.heap.size, 2, none⟩ = some (.int .i64 b.next) ∧ w'.cell? ⟨w8.heap.size, 3, none⟩ = some (.int .i64 b.mod) ∧ w'.cell? ⟨w8.heap.size, 4, none⟩ = some (.slice amX b.mails.length cmX) ∧ w'.cell? ⟨w8.heap.size, 5, none⟩ = some (.slice atX b.tombs.length ctX) ∧ w'.cell? ⟨w8.heap.size, 6, none⟩ = some (.int .i64 b.hor) ∧ w'.cell? ⟨w.heap.size, 0, none⟩ = some (.string b.name) ∧ w'.cell? ⟨w.heap.size, 1, none⟩ = some (.int .i64 b.valid) ∧ w'.cell? ⟨w.heap.size, 2, none⟩ = some (.int .i64 b.next) ∧ w'.cell? ⟨w.heap.size, 3, none⟩ = some (.int .i64 b.mod) ∧ w'.cell? ⟨w.heap.size, 4, none⟩ = some (.slice a1 b.mails.length c1) ∧ w'.cell? ⟨w.heap.size, 5, none⟩ = some (.slice a2 b.tombs.length c2) ∧ w'.cell? ⟨w.heap.size, 6, none⟩ = some (.int .i64 b.hor)) (by kernel_rfl) (⟨Xc0, Xc1, Xc2, Xc3, Xc4, Xc5, Xc6, Ac0, Ac1, Ac2, Ac3, Ac4, Ac5, Ac6⟩) (fun hHeld => ?_)
  refine takeVal 0 (some 78) ?_ rfl (by kernel_rfl) (by kernel_rfl) (by kernel_rfl) rfl (fun _ _ _ h => h) (by rfl) (by assumption) ?_ ?_
  rotate_left
  · (intro w hSw; (try dsimp only at hSw); go_simp <;> with_reducible rfl)
  simp only [Act.put, List.setIfInBounds_toArray, List.set_cons_zero, List.set_cons_succ]
  refine takeVal 1 (some 79) ?_ rfl (by kernel_rfl) (by kernel_rfl) (by kernel_rfl) rfl (fun _ _ _ h => h) (by rfl) (by assumption) ?_ ?_
  rotate_left
  · (intro w hSw; (try dsimp only at hSw); go_simp <;> with_reducible rfl)
  simp only [Act.put, List.setIfInBounds_toArray, List.set_cons_zero, List.set_cons_succ]
  clear Xc0 Xc1 Xc2 Xc3 Xc4 Xc5 Xc6 Ac0 Ac1 Ac2 Ac3 Ac4 Ac5 Ac6
  have RWD_ := hide (unhide RWD).drew
  clear RWD
  have RWD := RWD_
  clear RWD_
  have RWL_ := hide (unhide RWL).drew
  clear RWL
  have RWL := RWL_
  clear RWL_
  have RXS_ := hide (unhide RXS).drew
  clear RXS
  have RXS := RXS_
  clear RXS_
  have RGD_ := hide (unhide RGD).drew
  clear RGD
  have RGD := RGD_
  clear RGD_
  have RGL_ := hide (unhide RGL).drew
  clear RGL
  have RGL := RGL_
  clear RGL_
  have A_ := hide (unhide A).drew
  clear A
  have A := A_
  clear A_
  have W_ := hide (unhide W).drew
  clear W
  have W := W_
  clear W_
  have X_ := hide (unhide X).drew
  clear X
  have X := X_
  clear X_
  have G_ := hide (unhide G).drew
  clear G
  have G := G_
  clear G_
  have OW_ := hide (unhide OW).drew
  clear OW
  have OW := OW_
  clear OW_
  have OX_ := hide (unhide OX).drew
  clear OX
  have OX := OX_
  clear OX_
  have OG_ := hide (unhide OG).drew
  clear OG
  have OG := OG_
  clear OG_
  have BB_ := hide (unhide BB).drew
  clear BB
  have BB := BB_
  clear BB_
  refine wpAnyH_ready (rs := [2]) (by kernel_rfl) (by simp) ?_
  refine AllReadyH.cons rfl (fun K hK => ?_) AllReadyH.nil
  go_simp
  refine (unhide TB _ (unhide BB)).mono ?_
  rintro e w16 ⟨mC17, tC17, rfl, oC17, hb1⟩
  go_wp2_with fail
  refine hK.out _ _ (⟨((unhide X).ups hb1).cell 0 rfl, ((unhide X).ups hb1).cell 1 rfl, ((unhide X).ups hb1).cell 2 rfl, ((unhide X).ups hb1).cell 3 rfl, ((unhide X).ups hb1).cell 4 rfl, ((unhide X).ups hb1).cell 5 rfl, ((unhide X).ups hb1).cell 6 rfl, ((unhide A).ups hb1).cell 0 rfl, ((unhide A).ups hb1).cell 1 rfl, ((unhide A).ups hb1).cell 2 rfl, ((unhide A).ups hb1).cell 3 rfl, ((unhide A).ups hb1).cell 4 rfl, ((unhide A).ups hb1).cell 5 rfl, ((unhide A).ups hb1).cell 6 rfl⟩) (fun hHeld2 => ?_)
  clear hK K hHeld
  have hHeld := hHeld2; clear hHeld2
  try simp only [Act.put, List.setIfInBounds_toArray, List.set_cons_zero, List.set_cons_succ]
  obtain ⟨amC17, cmC17, rfl⟩ := g_shape oC17.1
  obtain ⟨atC17, ctC17, rfl⟩ := g_shape oC17.2
  have OC17 := hide oC17
  clear oC17
  have RWD_ := hide ((unhide RWD).up hb1)
  clear RWD
  have RWD := RWD_
  clear RWD_
  have RWL_ := hide ((unhide RWL).up hb1)
  clear RWL
  have RWL := RWL_
  clear RWL_
  have RXS_ := hide ((unhide RXS).up hb1)
  clear RXS
  have RXS := RXS_
  clear RXS_
  have RGD_ := hide ((unhide RGD).up hb1)
  clear RGD
  have RGD := RGD_
  clear RGD_
  have RGL_ := hide ((unhide RGL).up hb1)
  clear RGL
  have RGL := RGL_
  clear RGL_
  have A_ := hide ((unhide A).ups hb1)
  clear A
  have A := A_
  clear A_
  have W_ := hide ((unhide W).ups hb1)
  clear W
  have W := W_
  clear W_
  have X_ := hide ((unhide X).ups hb1)
  clear X
  have X := X_
  clear X_
  have G_ := hide ((unhide G).ups hb1)
  clear G
  have G := G_
  clear G_
  have OW_ := hide ((unhide OW).up hb1)
  clear OW
  have OW := OW_
  clear OW_
  have OX_ := hide ((unhide OX).up hb1)
  clear OX
  have OX := OX_
  clear OX_
  have OG_ := hide ((unhide OG).up hb1)
  clear OG
  have OG := OG_
  clear OG_
  have sz15 := hide hb1.size
  have BB_ := hide (below_y (unhide BB) hb1)
  clear BB
  have BB := BB_
  clear BB_ hb1
  refine wpAnyH_ready (rs := [3]) (by kernel_rfl) (by simp) ?_
  refine AllReadyH.cons rfl (fun K hK => ?_) AllReadyH.nil
  go_simp
  refine (eqBox_same b _ _ _ _ _ _ _ (unhide SM).2.1.1 (unhide SM).2.2 (unhide OX) (unhide OC17)).mono ?_
  rintro e w17 ⟨rfl, hb2⟩
  go_wp2_with fail
  refine hK.out _ _ (⟨((unhide X).ups hb2).cell 0 rfl, ((unhide X).ups hb2).cell 1 rfl, ((unhide X).ups hb2).cell 2 rfl, ((unhide X).ups hb2).cell 3 rfl, ((unhide X).ups hb2).cell 4 rfl, ((unhide X).ups hb2).cell 5 rfl, ((unhide X).ups hb2).cell 6 rfl, ((unhide A).ups hb2).cell 0 rfl, ((unhide A).ups hb2).cell 1 rfl, ((unhide A).ups hb2).cell 2 rfl, ((unhide A).ups hb2).cell 3 rfl, ((unhide A).ups hb2).cell 4 rfl, ((unhide A).ups hb2).cell 5 rfl, ((unhide A).ups hb2).cell 6 rfl⟩) (fun hHeld2 => ?_)
  clear hK K hHeld
  have hHeld := hHeld2; clear hHeld2
  try simp only [Act.put, List.setIfInBounds_toArray, List.set_cons_zero, List.set_cons_succ]
  have RWD_ := hide ((unhide RWD).up hb2)
  clear RWD
  have RWD := RWD_
  clear RWD_
  have RWL_ := hide ((unhide RWL).up hb2)
  clear RWL
  have RWL := RWL_
  clear RWL_
  have RXS_ := hide ((unhide RXS).up hb2)
  clear RXS
  have RXS := RXS_
  clear RXS_
  have RGD_ := hide ((unhide RGD).up hb2)
  clear RGD
  have RGD := RGD_
  clear RGD_
  have RGL_ := hide ((unhide RGL).up hb2)
  clear RGL
  have RGL := RGL_
  clear RGL_
  have A_ := hide ((unhide A).ups hb2)
  clear A
  have A := A_
  clear A_
  have W_ := hide ((unhide W).ups hb2)
  clear W
  have W := W_
  clear W_
  have X_ := hide ((unhide X).ups hb2)
  clear X
  have X := X_
  clear X_
  have G_ := hide ((unhide G).ups hb2)
  clear G
  have G := G_
  clear G_
  have OW_ := hide ((unhide OW).up hb2)
  clear OW
  have OW := OW_
  clear OW_
  have OX_ := hide ((unhide OX).up hb2)
  clear OX
  have OX := OX_
  clear OX_
  have OG_ := hide ((unhide OG).up hb2)
  clear OG
  have OG := OG_
  clear OG_
  have sz16 := hide hb2.size
  have BB_ := hide (below_y (unhide BB) hb2)
  clear BB
  have BB := BB_
  clear BB_ hb2
  refine takeVal 4 (some 82) ?_ rfl (by kernel_rfl) (by kernel_rfl) (by kernel_rfl) rfl (fun _ _ _ h => h) (by rfl) (by assumption) ?_ ?_
  rotate_left
  · (intro w hSw; (try dsimp only at hSw); go_simp <;> with_reducible rfl)
  simp only [Act.put, List.setIfInBounds_toArray, List.set_cons_zero, List.set_cons_succ]
  refine wpAnyH_done (by kernel_rfl) ?_ _
  go_wp2_with fail
  refine (unhide TR _ (unhide BB)).mono ?_
  rintro e w18 ⟨vC, rfl, oC, hb⟩
  obtain ⟨aC, cC, rfl⟩ := g_shape oC
  have NC := hide (fun g (h : Value.ownBlock _ = some g) => World.ownsRow.lt oC g h)
  have RC := hide oC
  clear oC
  have RWD_ := hide ((unhide RWD).up hb)
  clear RWD
  have RWD := RWD_
  clear RWD_
  have RWL_ := hide ((unhide RWL).up hb)
  clear RWL
  have RWL := RWL_
  clear RWL_
  have RXS_ := hide ((unhide RXS).up hb)
  clear RXS
  have RXS := RXS_
  clear RXS_
  have RGD_ := hide ((unhide RGD).up hb)
  clear RGD
  have RGD := RGD_
  clear RGD_
  have RGL_ := hide ((unhide RGL).up hb)
  clear RGL
  have RGL := RGL_
  clear RGL_
  have A_ := hide ((unhide A).ups hb)
  clear A
  have A := A_
  clear A_
  have W_ := hide ((unhide W).ups hb)
  clear W
  have W := W_
  clear W_
  have X_ := hide ((unhide X).ups hb)
  clear X
  have X := X_
  clear X_
  have G_ := hide ((unhide G).ups hb)
  clear G
  have G := G_
  clear G_
  have OW_ := hide ((unhide OW).up hb)
  clear OW
  have OW := OW_
  clear OW_
  have OX_ := hide ((unhide OX).up hb)
  clear OX
  have OX := OX_
  clear OX_
  have OG_ := hide ((unhide OG).up hb)
  clear OG
  have OG := OG_
  clear OG_
  have sz17 := hide hb.size
  have BB_ := hide (below_y (unhide BB) hb)
  clear BB
  have BB := BB_
  clear BB_ hb
  go_wp2_with fail
  refine (eqRangeS_same s _ _ _ _ _ hs (unhide RXS) (unhide RC)).mono ?_
  rintro e w19 ⟨rfl, hb⟩
  have RWD_ := hide ((unhide RWD).up hb)
  clear RWD
  have RWD := RWD_
  clear RWD_
  have RWL_ := hide ((unhide RWL).up hb)
  clear RWL
  have RWL := RWL_
  clear RWL_
  have RXS_ := hide ((unhide RXS).up hb)
  clear RXS
  have RXS := RXS_
  clear RXS_
  have RGD_ := hide ((unhide RGD).up hb)
  clear RGD
  have RGD := RGD_
  clear RGD_
  have RGL_ := hide ((unhide RGL).up hb)
  clear RGL
  have RGL := RGL_
  clear RGL_
  have RC_ := hide ((unhide RC).up hb)
  clear RC
  have RC := RC_
  clear RC_
  have A_ := hide ((unhide A).ups hb)
  clear A
  have A := A_
  clear A_
  have W_ := hide ((unhide W).ups hb)
  clear W
  have W := W_
  clear W_
  have X_ := hide ((unhide X).ups hb)
  clear X
  have X := X_
  clear X_
  have G_ := hide ((unhide G).ups hb)
  clear G
  have G := G_
  clear G_
  have OW_ := hide ((unhide OW).up hb)
  clear OW
  have OW := OW_
  clear OW_
  have OX_ := hide ((unhide OX).up hb)
  clear OX
  have OX := OX_
  clear OX_
  have OG_ := hide ((unhide OG).up hb)
  clear OG
  have OG := OG_
  clear OG_
  have sz18 := hide hb.size
  have BB_ := hide (below_y (unhide BB) hb)
  clear BB
  have BB := BB_
  clear BB_ hb
  clear RC
  have Xc0 := (unhide X).cell 0 rfl
  have Xc1 := (unhide X).cell 1 rfl
  have Xc2 := (unhide X).cell 2 rfl
  have Xc3 := (unhide X).cell 3 rfl
  have Xc4 := (unhide X).cell 4 rfl
  have Xc5 := (unhide X).cell 5 rfl
  have Xc6 := (unhide X).cell 6 rfl
  go_wp2_with fail
  clear Xc0 Xc1 Xc2 Xc3 Xc4 Xc5 Xc6
  refine (markBox_any b _ _ _ 1 _ (unhide SM).2.1.1 (unhide SM).2.2 (by decide) (by decide) (unhide OX)).mono ?_
  rintro e w20 ⟨rfl, om, hg⟩
  have A_ := hide (hg.obj (unhide A) (fun hh => by rcases hh with hh | hh; exact (unhide A).not_row (by decide) (unhide OX).1 hh; exact (unhide A).not_row (by decide) (unhide OX).2 hh))
  have W_ := hide (hg.obj (unhide W) (fun hh => by rcases hh with hh | hh; exact (unhide W).not_row (by decide) (unhide OX).1 hh; exact (unhide W).not_row (by decide) (unhide OX).2 hh))
  have X_ := hide (hg.obj (unhide X) (fun hh => by rcases hh with hh | hh; exact (unhide X).not_row (by decide) (unhide OX).1 hh; exact (unhide X).not_row (by decide) (unhide OX).2 hh))
  have G_ := hide (hg.obj (unhide G) (fun hh => by rcases hh with hh | hh; exact (unhide G).not_row (by decide) (unhide OX).1 hh; exact (unhide G).not_row (by decide) (unhide OX).2 hh))
  have OW_ := hide ((unhide OW).but hg (fun g hg1 hg2 => by have q1 := unhide NW g hg1; have q2 := unhide NX g hg2; have z1 := unhide sz1; have z2 := unhide sz2; have z3 := unhide sz3; have z4 := unhide sz4; have z5 := unhide sz5; have z6 := unhide sz6; have z7 := unhide sz7; have z8 := unhide sz8; have z9 := unhide sz9; have z10 := unhide sz10; have z11 := unhide sz11; have z12 := unhide sz12; have z13 := unhide sz13; have z14 := unhide sz14; have z15 := unhide sz15; have z16 := unhide sz16; have z17 := unhide sz17; have z18 := unhide sz18; omega))
  have OG_ := hide ((unhide OG).but hg (fun g hg1 hg2 => by have q1 := unhide NG g hg1; have q2 := unhide NX g hg2; have z1 := unhide sz1; have z2 := unhide sz2; have z3 := unhide sz3; have z4 := unhide sz4; have z5 := unhide sz5; have z6 := unhide sz6; have z7 := unhide sz7; have z8 := unhide sz8; have z9 := unhide sz9; have z10 := unhide sz10; have z11 := unhide sz11; have z12 := unhide sz12; have z13 := unhide sz13; have z14 := unhide sz14; have z15 := unhide sz15; have z16 := unhide sz16; have z17 := unhide sz17; have z18 := unhide sz18; omega))
  have RWD_ : Hid (OwnR _ w20 _ _) := hg.row (unhide RWD) (fun g hg1 hg2 => by rcases hg2 with hg2 | hg2; exact rows_apart (unhide OX).1 (unhide RWD) (by decide) g hg2 hg1; exact rows_apart (unhide OX).2 (unhide RWD) (by decide) g hg2 hg1)
  have RWL_ : Hid (OwnR _ w20 _ _) := hg.row (unhide RWL) (fun g hg1 hg2 => by rcases hg2 with hg2 | hg2; exact rows_apart (unhide OX).1 (unhide RWL) (by decide) g hg2 hg1; exact rows_apart (unhide OX).2 (unhide RWL) (by decide) g hg2 hg1)
  have RXS_ : Hid (OwnR _ w20 _ _) := hg.row (unhide RXS) (fun g hg1 hg2 => by rcases hg2 with hg2 | hg2; exact rows_apart (unhide OX).1 (unhide RXS) (by decide) g hg2 hg1; exact rows_apart (unhide OX).2 (unhide RXS) (by decide) g hg2 hg1)
  have RGD_ : Hid (OwnR _ w20 _ _) := hg.row (unhide RGD) (fun g hg1 hg2 => by rcases hg2 with hg2 | hg2; exact rows_apart (unhide OX).1 (unhide RGD) (by decide) g hg2 hg1; exact rows_apart (unhide OX).2 (unhide RGD) (by decide) g hg2 hg1)
  have RGL_ : Hid (OwnR _ w20 _ _) := hg.row (unhide RGL) (fun g hg1 hg2 => by rcases hg2 with hg2 | hg2; exact rows_apart (unhide OX).1 (unhide RGL) (by decide) g hg2 hg1; exact rows_apart (unhide OX).2 (unhide RGL) (by decide) g hg2 hg1)
  have BB_ : Hid (Below w.heap.size w w20) := (unhide BB).trans (hg.toBelow (unhide BB).size (fun g hh => by have q2 := unhide NX g hh; have z1 := unhide sz1; have z2 := unhide sz2; have z3 := unhide sz3; have z4 := unhide sz4; have z5 := unhide sz5; have z6 := unhide sz6; have z7 := unhide sz7; have z8 := unhide sz8; have z9 := unhide sz9; have z10 := unhide sz10; have z11 := unhide sz11; have z12 := unhide sz12; have z13 := unhide sz13; have z14 := unhide sz14; have z15 := unhide sz15; have z16 := unhide sz16; have z17 := unhide sz17; have z18 := unhide sz18; omega))
  have sz19 := hide hg.size
  clear A
  have A := A_
  clear A_
  clear W
  have W := W_
  clear W_
  clear X
  have X := X_
  clear X_
  clear G
  have G := G_
  clear G_
  clear OW
  have OW := OW_
  clear OW_
  clear OG
  have OG := OG_
  clear OG_
  clear RWD
  have RWD := RWD_
  clear RWD_
  clear RWL
  have RWL := RWL_
  clear RWL_
  clear RXS
  have RXS := RXS_
  clear RXS_
  clear RGD
  have RGD := RGD_
  clear RGD_
  clear RGL
  have RGL := RGL_
  clear RGL_
  clear BB
  have BB := BB_
  clear BB_
  clear OX
  have OX := hide om
  clear om hg
  clear OX
  clear X
  have z1 := (unhide SM).2.1.1
  have z2 := (unhide SM).2.2
  go_wp2_with fail
  refine (markR_at s _ _ _ _ (by omega) (by omega) hs (unhide RXS)).mono ?_
  rintro e w21 ⟨rfl, om, hg0⟩
  have hg := GrownBut.of hg0
  have A_ := hide (hg.obj (unhide A) (fun hh => (unhide A).not_row (by decide) (unhide RXS) hh))
  have W_ := hide (hg.obj (unhide W) (fun hh => (unhide W).not_row (by decide) (unhide RXS) hh))
  have G_ := hide (hg.obj (unhide G) (fun hh => (unhide G).not_row (by decide) (unhide RXS) hh))
  have OW_ := hide ((unhide OW).but hg (fun g hg1 hg2 => by rcases hg1 with hg1 | hg1; exact rows_apart (unhide OW).1 (unhide RXS) (by decide) g hg1 hg2; exact rows_apart (unhide OW).2 (unhide RXS) (by decide) g hg1 hg2))
  have OG_ := hide ((unhide OG).but hg (fun g hg1 hg2 => by rcases hg1 with hg1 | hg1; exact rows_apart (unhide OG).1 (unhide RXS) (by decide) g hg1 hg2; exact rows_apart (unhide OG).2 (unhide RXS) (by decide) g hg1 hg2))
  have RWD_ : Hid (OwnR _ w21 _ _) := hg.row (unhide RWD) (fun g hg1 hg2 => by have q1 := unhide NWD g hg1; have q2 := unhide NXS g hg2; have z1 := unhide sz1; have z2 := unhide sz2; have z3 := unhide sz3; have z4 := unhide sz4; have z5 := unhide sz5; have z6 := unhide sz6; have z7 := unhide sz7; have z8 := unhide sz8; have z9 := unhide sz9; have z10 := unhide sz10; have z11 := unhide sz11; have z12 := unhide sz12; have z13 := unhide sz13; have z14 := unhide sz14; have z15 := unhide sz15; have z16 := unhide sz16; have z17 := unhide sz17; have z18 := unhide sz18; have z19 := unhide sz19; omega)
  have RWL_ : Hid (OwnR _ w21 _ _) := hg.row (unhide RWL) (fun g hg1 hg2 => by have q1 := unhide NWL g hg1; have q2 := unhide NXS g hg2; have z1 := unhide sz1; have z2 := unhide sz2; have z3 := unhide sz3; have z4 := unhide sz4; have z5 := unhide sz5; have z6 := unhide sz6; have z7 := unhide sz7; have z8 := unhide sz8; have z9 := unhide sz9; have z10 := unhide sz10; have z11 := unhide sz11; have z12 := unhide sz12; have z13 := unhide sz13; have z14 := unhide sz14; have z15 := unhide sz15; have z16 := unhide sz16; have z17 := unhide sz17; have z18 := unhide sz18; have z19 := unhide sz19; omega)
  have RGD_ : Hid (OwnR _ w21 _ _) := hg.row (unhide RGD) (fun g hg1 hg2 => by have q1 := unhide NGD g hg1; have q2 := unhide NXS g hg2; have z1 := unhide sz1; have z2 := unhide sz2; have z3 := unhide sz3; have z4 := unhide sz4; have z5 := unhide sz5; have z6 := unhide sz6; have z7 := unhide sz7; have z8 := unhide sz8; have z9 := unhide sz9; have z10 := unhide sz10; have z11 := unhide sz11; have z12 := unhide sz12; have z13 := unhide sz13; have z14 := unhide sz14; have z15 := unhide sz15; have z16 := unhide sz16; have z17 := unhide sz17; have z18 := unhide sz18; have z19 := unhide sz19; omega)
  have RGL_ : Hid (OwnR _ w21 _ _) := hg.row (unhide RGL) (fun g hg1 hg2 => by have q1 := unhide NGL g hg1; have q2 := unhide NXS g hg2; have z1 := unhide sz1; have z2 := unhide sz2; have z3 := unhide sz3; have z4 := unhide sz4; have z5 := unhide sz5; have z6 := unhide sz6; have z7 := unhide sz7; have z8 := unhide sz8; have z9 := unhide sz9; have z10 := unhide sz10; have z11 := unhide sz11; have z12 := unhide sz12; have z13 := unhide sz13; have z14 := unhide sz14; have z15 := unhide sz15; have z16 := unhide sz16; have z17 := unhide sz17; have z18 := unhide sz18; have z19 := unhide sz19; omega)
  have BB_ : Hid (Below w.heap.size w w21) := (unhide BB).trans (hg.toBelow (unhide BB).size (fun g hh => by have q2 := unhide NXS g hh; have z1 := unhide sz1; have z2 := unhide sz2; have z3 := unhide sz3; have z4 := unhide sz4; have z5 := unhide sz5; have z6 := unhide sz6; have z7 := unhide sz7; have z8 := unhide sz8; have z9 := unhide sz9; have z10 := unhide sz10; have z11 := unhide sz11; have z12 := unhide sz12; have z13 := unhide sz13; have z14 := unhide sz14; have z15 := unhide sz15; have z16 := unhide sz16; have z17 := unhide sz17; have z18 := unhide sz18; have z19 := unhide sz19; omega))
  have sz20 := hide hg.size
  clear A
  have A := A_
  clear A_
  clear W
  have W := W_
  clear W_
  clear G
  have G := G_
  clear G_
  clear OW
  have OW := OW_
  clear OW_
  clear OG
  have OG := OG_
  clear OG_
  clear RWD
  have RWD := RWD_
  clear RWD_
  clear RWL
  have RWL := RWL_
  clear RWL_
  clear RGD
  have RGD := RGD_
  clear RGD_
  clear RGL
  have RGL := RGL_
  clear RGL_
  clear BB
  have BB := BB_
  clear BB_
  clear RXS
  have RXS := hide om
  clear om hg hg0
  clear RXS
  have j1 : ¬ (1 : Int) + (b.mails.length : Int) * 4 + (b.tombs.length : Int) * 2 + (s.length : Int) * 2 < 0 := by omega
  have Gc0 := (unhide G).cell 0 rfl
  have Gc1 := (unhide G).cell 1 rfl
  have Gc2 := (unhide G).cell 2 rfl
  have Gc3 := (unhide G).cell 3 rfl
  have Gc4 := (unhide G).cell 4 rfl
  have Gc5 := (unhide G).cell 5 rfl
  have Gc6 := (unhide G).cell 6 rfl
  have Wc0 := (unhide W).cell 0 rfl
  have Wc1 := (unhide W).cell 1 rfl
  have Wc2 := (unhide W).cell 2 rfl
  have Wc3 := (unhide W).cell 3 rfl
  have Wc4 := (unhide W).cell 4 rfl
  have Wc5 := (unhide W).cell 5 rfl
  have Wc6 := (unhide W).cell 6 rfl
  go_wp2_with fail
  clear Gc0 Gc1 Gc2 Gc3 Gc4 Gc5 Gc6 Wc0 Wc1 Wc2 Wc3 Wc4 Wc5 Wc6
  refine (eqBox_same b2 _ _ _ _ _ _ _ (unhide AL).1 (unhide AL).2.1 (unhide OG) (unhide OW)).mono ?_
  rintro e w22 ⟨rfl, hb⟩
  have RWD_ := hide ((unhide RWD).up hb)
  clear RWD
  have RWD := RWD_
  clear RWD_
  have RWL_ := hide ((unhide RWL).up hb)
  clear RWL
  have RWL := RWL_
  clear RWL_
  have RGD_ := hide ((unhide RGD).up hb)
  clear RGD
  have RGD := RGD_
  clear RGD_
  have RGL_ := hide ((unhide RGL).up hb)
  clear RGL
  have RGL := RGL_
  clear RGL_
  have A_ := hide ((unhide A).ups hb)
  clear A
  have A := A_
  clear A_
  have W_ := hide ((unhide W).ups hb)
  clear W
  have W := W_
  clear W_
  have G_ := hide ((unhide G).ups hb)
  clear G
  have G := G_
  clear G_
  have OW_ := hide ((unhide OW).up hb)
  clear OW
  have OW := OW_
  clear OW_
  have OG_ := hide ((unhide OG).up hb)
  clear OG
  have OG := OG_
  clear OG_
  have sz21 := hide hb.size
  have BB_ := hide (below_y (unhide BB) hb)
  clear BB
  have BB := BB_
  clear BB_ hb
  go_wp2_with fail
  refine (eqRangeS_same lD _ _ _ _ _ ((unhide AL).2.2.1) (unhide RGD) (unhide RWD)).mono ?_
  rintro e w23 ⟨rfl, hb⟩
  have RWD_ := hide ((unhide RWD).up hb)
  clear RWD
  have RWD := RWD_
  clear RWD_
  have RWL_ := hide ((unhide RWL).up hb)
  clear RWL
  have RWL := RWL_
  clear RWL_
  have RGD_ := hide ((unhide RGD).up hb)
  clear RGD
  have RGD := RGD_
  clear RGD_
  have RGL_ := hide ((unhide RGL).up hb)
  clear RGL
  have RGL := RGL_
  clear RGL_
  have A_ := hide ((unhide A).ups hb)
  clear A
  have A := A_
  clear A_
  have W_ := hide ((unhide W).ups hb)
  clear W
  have W := W_
  clear W_
  have G_ := hide ((unhide G).ups hb)
  clear G
  have G := G_
  clear G_
  have OW_ := hide ((unhide OW).up hb)
  clear OW
  have OW := OW_
  clear OW_
  have OG_ := hide ((unhide OG).up hb)
  clear OG
  have OG := OG_
  clear OG_
  have sz22 := hide hb.size
  have BB_ := hide (below_y (unhide BB) hb)
  clear BB
  have BB := BB_
  clear BB_ hb
  go_wp2_with fail
  refine (eqRangeS_same lL _ _ _ _ _ ((unhide AL).2.2.2) (unhide RGL) (unhide RWL)).mono ?_
  rintro e w24 ⟨rfl, hb⟩
  have RWD_ := hide ((unhide RWD).up hb)
  clear RWD
  have RWD := RWD_
  clear RWD_
  have RWL_ := hide ((unhide RWL).up hb)
  clear RWL
  have RWL := RWL_
  clear RWL_
  have RGD_ := hide ((unhide RGD).up hb)
  clear RGD
  have RGD := RGD_
  clear RGD_
  have RGL_ := hide ((unhide RGL).up hb)
  clear RGL
  have RGL := RGL_
  clear RGL_
  have A_ := hide ((unhide A).ups hb)
  clear A
  have A := A_
  clear A_
  have W_ := hide ((unhide W).ups hb)
  clear W
  have W := W_
  clear W_
  have G_ := hide ((unhide G).ups hb)
  clear G
  have G := G_
  clear G_
  have OW_ := hide ((unhide OW).up hb)
  clear OW
  have OW := OW_
  clear OW_
  have OG_ := hide ((unhide OG).up hb)
  clear OG
  have OG := OG_
  clear OG_
  have sz23 := hide hb.size
  have BB_ := hide (below_y (unhide BB) hb)
  clear BB
  have BB := BB_
  clear BB_ hb
  have y1 := (unhide AL).1
  have y2 := (unhide AL).2.1
  have yD := (unhide AL).2.2.1
  have yL := (unhide AL).2.2.2
  have Gc0 := (unhide G).cell 0 rfl
  have Gc1 := (unhide G).cell 1 rfl
  have Gc2 := (unhide G).cell 2 rfl
  have Gc3 := (unhide G).cell 3 rfl
  have Gc4 := (unhide G).cell 4 rfl
  have Gc5 := (unhide G).cell 5 rfl
  have Gc6 := (unhide G).cell 6 rfl
  go_wp2_with fail
  clear Gc0 Gc1 Gc2 Gc3 Gc4 Gc5 Gc6
  refine (markBox_any b2 _ _ _ 1 _ (unhide AL).1 (unhide AL).2.1 (by decide) (by decide) (unhide OG)).mono ?_
  rintro e w25 ⟨rfl, om, hg⟩
  have A_ := hide (hg.obj (unhide A) (fun hh => by rcases hh with hh | hh; exact (unhide A).not_row (by decide) (unhide OG).1 hh; exact (unhide A).not_row (by decide) (unhide OG).2 hh))
  have W_ := hide (hg.obj (unhide W) (fun hh => by rcases hh with hh | hh; exact (unhide W).not_row (by decide) (unhide OG).1 hh; exact (unhide W).not_row (by decide) (unhide OG).2 hh))
  have G_ := hide (hg.obj (unhide G) (fun hh => by rcases hh with hh | hh; exact (unhide G).not_row (by decide) (unhide OG).1 hh; exact (unhide G).not_row (by decide) (unhide OG).2 hh))
  have OW_ := hide ((unhide OW).but hg (fun g hg1 hg2 => by have q1 := unhide NW g hg1; have q2 := unhide NG g hg2; have z1 := unhide sz1; have z2 := unhide sz2; have z3 := unhide sz3; have z4 := unhide sz4; have z5 := unhide sz5; have z6 := unhide sz6; have z7 := unhide sz7; have z8 := unhide sz8; have z9 := unhide sz9; have z10 := unhide sz10; have z11 := unhide sz11; have z12 := unhide sz12; have z13 := unhide sz13; have z14 := unhide sz14; have z15 := unhide sz15; have z16 := unhide sz16; have z17 := unhide sz17; have z18 := unhide sz18; have z19 := unhide sz19; have z20 := unhide sz20; have z21 := unhide sz21; have z22 := unhide sz22; have z23 := unhide sz23; omega))
  have RWD_ : Hid (OwnR _ w25 _ _) := hg.row (unhide RWD) (fun g hg1 hg2 => by rcases hg2 with hg2 | hg2; exact rows_apart (unhide OG).1 (unhide RWD) (by decide) g hg2 hg1; exact rows_apart (unhide OG).2 (unhide RWD) (by decide) g hg2 hg1)
  have RWL_ : Hid (OwnR _ w25 _ _) := hg.row (unhide RWL) (fun g hg1 hg2 => by rcases hg2 with hg2 | hg2; exact rows_apart (unhide OG).1 (unhide RWL) (by decide) g hg2 hg1; exact rows_apart (unhide OG).2 (unhide RWL) (by decide) g hg2 hg1)
  have RGD_ : Hid (OwnR _ w25 _ _) := hg.row (unhide RGD) (fun g hg1 hg2 => by rcases hg2 with hg2 | hg2; exact rows_apart (unhide OG).1 (unhide RGD) (by decide) g hg2 hg1; exact rows_apart (unhide OG).2 (unhide RGD) (by decide) g hg2 hg1)
  have RGL_ : Hid (OwnR _ w25 _ _) := hg.row (unhide RGL) (fun g hg1 hg2 => by rcases hg2 with hg2 | hg2; exact rows_apart (unhide OG).1 (unhide RGL) (by decide) g hg2 hg1; exact rows_apart (unhide OG).2 (unhide RGL) (by decide) g hg2 hg1)
  have BB_ : Hid (Below w.heap.size w w25) := (unhide BB).trans (hg.toBelow (unhide BB).size (fun g hh => by have q2 := unhide NG g hh; have z1 := unhide sz1; have z2 := unhide sz2; have z3 := unhide sz3; have z4 := unhide sz4; have z5 := unhide sz5; have z6 := unhide sz6; have z7 := unhide sz7; have z8 := unhide sz8; have z9 := unhide sz9; have z10 := unhide sz10; have z11 := unhide sz11; have z12 := unhide sz12; have z13 := unhide sz13; have z14 := unhide sz14; have z15 := unhide sz15; have z16 := unhide sz16; have z17 := unhide sz17; have z18 := unhide sz18; have z19 := unhide sz19; have z20 := unhide sz20; have z21 := unhide sz21; have z22 := unhide sz22; have z23 := unhide sz23; omega))
  have sz24 := hide hg.size
  clear A
  have A := A_
  clear A_
  clear W
  have W := W_
  clear W_
  clear G
  have G := G_
  clear G_
  clear OW
  have OW := OW_
  clear OW_
  clear RWD
  have RWD := RWD_
  clear RWD_
  clear RWL
  have RWL := RWL_
  clear RWL_
  clear RGD
  have RGD := RGD_
  clear RGD_
  clear RGL
  have RGL := RGL_
  clear RGL_
  clear BB
  have BB := BB_
  clear BB_
  clear OG
  have OG := hide om
  clear om hg
  go_wp2_with fail
  refine (markR_at lD _ _ _ _ (by omega) (by omega) (unhide AL).2.2.1 (unhide RGD)).mono ?_
  rintro e w26 ⟨rfl, om, hg0⟩
  have hg := GrownBut.of hg0
  have A_ := hide (hg.obj (unhide A) (fun hh => (unhide A).not_row (by decide) (unhide RGD) hh))
  have W_ := hide (hg.obj (unhide W) (fun hh => (unhide W).not_row (by decide) (unhide RGD) hh))
  have G_ := hide (hg.obj (unhide G) (fun hh => (unhide G).not_row (by decide) (unhide RGD) hh))
  have OW_ := hide ((unhide OW).but hg (fun g hg1 hg2 => by rcases hg1 with hg1 | hg1; exact rows_apart (unhide OW).1 (unhide RGD) (by decide) g hg1 hg2; exact rows_apart (unhide OW).2 (unhide RGD) (by decide) g hg1 hg2))
  have OG_ := hide ((unhide OG).but hg (fun g hg1 hg2 => by rcases hg1 with hg1 | hg1; exact rows_apart (unhide OG).1 (unhide RGD) (by decide) g hg1 hg2; exact rows_apart (unhide OG).2 (unhide RGD) (by decide) g hg1 hg2))
  have RWD_ : Hid (OwnR _ w26 _ _) := hg.row (unhide RWD) (fun g hg1 hg2 => by have q1 := unhide NWD g hg1; have q2 := unhide NGD g hg2; have z1 := unhide sz1; have z2 := unhide sz2; have z3 := unhide sz3; have z4 := unhide sz4; have z5 := unhide sz5; have z6 := unhide sz6; have z7 := unhide sz7; have z8 := unhide sz8; have z9 := unhide sz9; have z10 := unhide sz10; have z11 := unhide sz11; have z12 := unhide sz12; have z13 := unhide sz13; have z14 := unhide sz14; have z15 := unhide sz15; have z16 := unhide sz16; have z17 := unhide sz17; have z18 := unhide sz18; have z19 := unhide sz19; have z20 := unhide sz20; have z21 := unhide sz21; have z22 := unhide sz22; have z23 := unhide sz23; have z24 := unhide sz24; omega)
  have RWL_ : Hid (OwnR _ w26 _ _) := hg.row (unhide RWL) (fun g hg1 hg2 => by have q1 := unhide NWL g hg1; have q2 := unhide NGD g hg2; have z1 := unhide sz1; have z2 := unhide sz2; have z3 := unhide sz3; have z4 := unhide sz4; have z5 := unhide sz5; have z6 := unhide sz6; have z7 := unhide sz7; have z8 := unhide sz8; have z9 := unhide sz9; have z10 := unhide sz10; have z11 := unhide sz11; have z12 := unhide sz12; have z13 := unhide sz13; have z14 := unhide sz14; have z15 := unhide sz15; have z16 := unhide sz16; have z17 := unhide sz17; have z18 := unhide sz18; have z19 := unhide sz19; have z20 := unhide sz20; have z21 := unhide sz21; have z22 := unhide sz22; have z23 := unhide sz23; have z24 := unhide sz24; omega)
  have RGL_ : Hid (OwnR _ w26 _ _) := hg.row (unhide RGL) (fun g hg1 hg2 => unhide SEPG g hg2 hg1)
  have BB_ : Hid (Below w.heap.size w w26) := (unhide BB).trans (hg.toBelow (unhide BB).size (fun g hh => by have q2 := unhide NGD g hh; have z1 := unhide sz1; have z2 := unhide sz2; have z3 := unhide sz3; have z4 := unhide sz4; have z5 := unhide sz5; have z6 := unhide sz6; have z7 := unhide sz7; have z8 := unhide sz8; have z9 := unhide sz9; have z10 := unhide sz10; have z11 := unhide sz11; have z12 := unhide sz12; have z13 := unhide sz13; have z14 := unhide sz14; have z15 := unhide sz15; have z16 := unhide sz16; have z17 := unhide sz17; have z18 := unhide sz18; have z19 := unhide sz19; have z20 := unhide sz20; have z21 := unhide sz21; have z22 := unhide sz22; have z23 := unhide sz23; have z24 := unhide sz24; omega))
  have sz25 := hide hg.size
  clear A
  have A := A_
  clear A_
  clear W
  have W := W_
  clear W_
  clear G
  have G := G_
  clear G_
  clear OW
  have OW := OW_
  clear OW_
  clear OG
  have OG := OG_
  clear OG_
  clear RWD
  have RWD := RWD_
  clear RWD_
  clear RWL
  have RWL := RWL_
  clear RWL_
  clear RGL
  have RGL := RGL_
  clear RGL_
  clear BB
  have BB := BB_
  clear BB_
  clear RGD
  have RGD := hide om
  clear om hg hg0
  go_wp2_with fail
  refine (markR_at lL _ _ _ _ (by omega) (by omega) (unhide AL).2.2.2 (unhide RGL)).mono ?_
  rintro e w27 ⟨rfl, om, hg0⟩
  have hg := GrownBut.of hg0
  have A_ := hide (hg.obj (unhide A) (fun hh => (unhide A).not_row (by decide) (unhide RGL) hh))
  have W_ := hide (hg.obj (unhide W) (fun hh => (unhide W).not_row (by decide) (unhide RGL) hh))
  have G_ := hide (hg.obj (unhide G) (fun hh => (unhide G).not_row (by decide) (unhide RGL) hh))
  have OW_ := hide ((unhide OW).but hg (fun g hg1 hg2 => by rcases hg1 with hg1 | hg1; exact rows_apart (unhide OW).1 (unhide RGL) (by decide) g hg1 hg2; exact rows_apart (unhide OW).2 (unhide RGL) (by decide) g hg1 hg2))
  have OG_ := hide ((unhide OG).but hg (fun g hg1 hg2 => by rcases hg1 with hg1 | hg1; exact rows_apart (unhide OG).1 (unhide RGL) (by decide) g hg1 hg2; exact rows_apart (unhide OG).2 (unhide RGL) (by decide) g hg1 hg2))
  have RWD_ : Hid (OwnR _ w27 _ _) := hg.row (unhide RWD) (fun g hg1 hg2 => by have q1 := unhide NWD g hg1; have q2 := unhide NGL g hg2; have z1 := unhide sz1; have z2 := unhide sz2; have z3 := unhide sz3; have z4 := unhide sz4; have z5 := unhide sz5; have z6 := unhide sz6; have z7 := unhide sz7; have z8 := unhide sz8; have z9 := unhide sz9; have z10 := unhide sz10; have z11 := unhide sz11; have z12 := unhide sz12; have z13 := unhide sz13; have z14 := unhide sz14; have z15 := unhide sz15; have z16 := unhide sz16; have z17 := unhide sz17; have z18 := unhide sz18; have z19 := unhide sz19; have z20 := unhide sz20; have z21 := unhide sz21; have z22 := unhide sz22; have z23 := unhide sz23; have z24 := unhide sz24; have z25 := unhide sz25; omega)
  have RWL_ : Hid (OwnR _ w27 _ _) := hg.row (unhide RWL) (fun g hg1 hg2 => by have q1 := unhide NWL g hg1; have q2 := unhide NGL g hg2; have z1 := unhide sz1; have z2 := unhide sz2; have z3 := unhide sz3; have z4 := unhide sz4; have z5 := unhide sz5; have z6 := unhide sz6; have z7 := unhide sz7; have z8 := unhide sz8; have z9 := unhide sz9; have z10 := unhide sz10; have z11 := unhide sz11; have z12 := unhide sz12; have z13 := unhide sz13; have z14 := unhide sz14; have z15 := unhide sz15; have z16 := unhide sz16; have z17 := unhide sz17; have z18 := unhide sz18; have z19 := unhide sz19; have z20 := unhide sz20; have z21 := unhide sz21; have z22 := unhide sz22; have z23 := unhide sz23; have z24 := unhide sz24; have z25 := unhide sz25; omega)
  have RGD_ : Hid (OwnR _ w27 _ _) := hg.row (unhide RGD) (fun g hg1 hg2 => unhide SEPG g hg1 hg2)
  have BB_ : Hid (Below w.heap.size w w27) := (unhide BB).trans (hg.toBelow (unhide BB).size (fun g hh => by have q2 := unhide NGL g hh; have z1 := unhide sz1; have z2 := unhide sz2; have z3 := unhide sz3; have z4 := unhide sz4; have z5 := unhide sz5; have z6 := unhide sz6; have z7 := unhide sz7; have z8 := unhide sz8; have z9 := unhide sz9; have z10 := unhide sz10; have z11 := unhide sz11; have z12 := unhide sz12; have z13 := unhide sz13; have z14 := unhide sz14; have z15 := unhide sz15; have z16 := unhide sz16; have z17 := unhide sz17; have z18 := unhide sz18; have z19 := unhide sz19; have z20 := unhide sz20; have z21 := unhide sz21; have z22 := unhide sz22; have z23 := unhide sz23; have z24 := unhide sz24; have z25 := unhide sz25; omega))
  have sz26 := hide hg.size
  clear A
  have A := A_
  clear A_
  clear W
  have W := W_
  clear W_
  clear G
  have G := G_
  clear G_
  clear OW
  have OW := OW_
  clear OW_
  clear OG
  have OG := OG_
  clear OG_
  clear RWD
  have RWD := RWD_
  clear RWD_
  clear RWL
  have RWL := RWL_
  clear RWL_
  clear RGD
  have RGD := RGD_
  clear RGD_
  clear BB
  have BB := BB_
  clear BB_
  clear RGL
  have RGL := hide om
  clear om hg hg0
  have j2 : ¬ (1 : Int) + (b2.mails.length : Int) * 4 + (b2.tombs.length : Int) * 2 < 0 := by omega
  have j3 : ¬ (1 : Int) + (b2.mails.length : Int) * 4 + (b2.tombs.length : Int) * 2 + (lD.length : Int) * 2 < 0 := by omega
  have j4 : ¬ (1 : Int) + (b2.mails.length : Int) * 4 + (b2.tombs.length : Int) * 2 + (lD.length : Int) * 2 + (lL.length : Int) * 2 < 0 := by omega
  have Gc0 := (unhide G).cell 0 rfl
  have Gc1 := (unhide G).cell 1 rfl
  have Gc2 := (unhide G).cell 2 rfl
  have Gc3 := (unhide G).cell 3 rfl
  have Gc4 := (unhide G).cell 4 rfl
  have Gc5 := (unhide G).cell 5 rfl
  have Gc6 := (unhide G).cell 6 rfl
  go_wp2_with fail
  clear Gc0 Gc1 Gc2 Gc3 Gc4 Gc5 Gc6
  refine (heldBox_any b2 _ _ _ 1 _ (unhide AL).1 (unhide AL).2.1 (by decide) (by decide) (unhide OG)).mono ?_
  rintro e w28 ⟨rfl, hb⟩
  have RWD_ := hide ((unhide RWD).up hb)
  clear RWD
  have RWD := RWD_
  clear RWD_
  have RWL_ := hide ((unhide RWL).up hb)
  clear RWL
  have RWL := RWL_
  clear RWL_
  have RGD_ := hide ((unhide RGD).up hb)
  clear RGD
  have RGD := RGD_
  clear RGD_
  have RGL_ := hide ((unhide RGL).up hb)
  clear RGL
  have RGL := RGL_
  clear RGL_
  have A_ := hide ((unhide A).ups hb)
  clear A
  have A := A_
  clear A_
  have W_ := hide ((unhide W).ups hb)
  clear W
  have W := W_
  clear W_
  have G_ := hide ((unhide G).ups hb)
  clear G
  have G := G_
  clear G_
  have OW_ := hide ((unhide OW).up hb)
  clear OW
  have OW := OW_
  clear OW_
  have OG_ := hide ((unhide OG).up hb)
  clear OG
  have OG := OG_
  clear OG_
  have sz27 := hide hb.size
  have BB_ := hide (below_y (unhide BB) hb)
  clear BB
  have BB := BB_
  clear BB_ hb
  go_wp2_with fail
  refine (heldR_at lD.length _ _ _ _ (by omega) (by omega) (unhide AL).2.2.1 (unhide RGD)).mono ?_
  rintro e w29 ⟨rfl, hw⟩
  subst w29
  go_wp2_with fail
  refine (heldR_at lL.length _ _ _ _ (by omega) (by omega) (unhide AL).2.2.2 (unhide RGL)).mono ?_
  rintro e w30 ⟨rfl, hw⟩
  subst w30
  have Ac0 := (unhide A).cell 0 rfl
  have Ac1 := (unhide A).cell 1 rfl
  have Ac2 := (unhide A).cell 2 rfl
  have Ac3 := (unhide A).cell 3 rfl
  have Ac4 := (unhide A).cell 4 rfl
  have Ac5 := (unhide A).cell 5 rfl
  have Ac6 := (unhide A).cell 6 rfl
  go_wp2_with fail
  clear Ac0 Ac1 Ac2 Ac3 Ac4 Ac5 Ac6
  refine (unhide TB _ (unhide BB)).mono ?_
  rintro e w32 ⟨mQ, tQ, rfl, oQ, hb⟩
  obtain ⟨amQ, cmQ, rfl⟩ := g_shape oQ.1
  obtain ⟨atQ, ctQ, rfl⟩ := g_shape oQ.2
  have NQ := hide (OwnBx.base oQ)
  have OQ := hide oQ
  clear oQ
  have RWD_ := hide ((unhide RWD).up hb)
  clear RWD
  have RWD := RWD_
  clear RWD_
  have RWL_ := hide ((unhide RWL).up hb)
  clear RWL
  have RWL := RWL_
  clear RWL_
  have RGD_ := hide ((unhide RGD).up hb)
  clear RGD
  have RGD := RGD_
  clear RGD_
  have RGL_ := hide ((unhide RGL).up hb)
  clear RGL
  have RGL := RGL_
  clear RGL_
  have A_ := hide ((unhide A).ups hb)
  clear A
  have A := A_
  clear A_
  have W_ := hide ((unhide W).ups hb)
  clear W
  have W := W_
  clear W_
  have G_ := hide ((unhide G).ups hb)
  clear G
  have G := G_
  clear G_
  have OW_ := hide ((unhide OW).up hb)
  clear OW
  have OW := OW_
  clear OW_
  have OG_ := hide ((unhide OG).up hb)
  clear OG
  have OG := OG_
  clear OG_
  have sz28 := hide hb.size
  have BB_ := hide (below_y (unhide BB) hb)
  clear BB
  have BB := BB_
  clear BB_ hb
  go_wp2_with fail
  refine (unhide TR _ (unhide BB)).mono ?_
  rintro e w33 ⟨vQS, rfl, oQS, hb⟩
  obtain ⟨aQS, cQS, rfl⟩ := g_shape oQS
  have NQS := hide (fun g (h : Value.ownBlock _ = some g) => World.ownsRow.lt oQS g h)
  have RQS := hide oQS
  clear oQS
  have RWD_ := hide ((unhide RWD).up hb)
  clear RWD
  have RWD := RWD_
  clear RWD_
  have RWL_ := hide ((unhide RWL).up hb)
  clear RWL
  have RWL := RWL_
  clear RWL_
  have RGD_ := hide ((unhide RGD).up hb)
  clear RGD
  have RGD := RGD_
  clear RGD_
  have RGL_ := hide ((unhide RGL).up hb)
  clear RGL
  have RGL := RGL_
  clear RGL_
  have A_ := hide ((unhide A).ups hb)
  clear A
  have A := A_
  clear A_
  have W_ := hide ((unhide W).ups hb)
  clear W
  have W := W_
  clear W_
  have G_ := hide ((unhide G).ups hb)
  clear G
  have G := G_
  clear G_
  have OW_ := hide ((unhide OW).up hb)
  clear OW
  have OW := OW_
  clear OW_
  have OG_ := hide ((unhide OG).up hb)
  clear OG
  have OG := OG_
  clear OG_
  have OQ_ := hide ((unhide OQ).up hb)
  clear OQ
  have OQ := OQ_
  clear OQ_
  have sz29 := hide hb.size
  have BB_ := hide (below_y (unhide BB) hb)
  clear BB
  have BB := BB_
  clear BB_ hb
  go_wp2_with fail
  refine (unhide CJ _ _ _ _ _ _ (unhide OQ) (unhide RQS) (unhide BB)).mono ?_
  rintro e w34 ⟨mH, tH, vHD, vHL, rfl, oH, oHD, oHL, sep, hb⟩
  obtain ⟨amH, cmH, rfl⟩ := g_shape oH.1
  obtain ⟨atH, ctH, rfl⟩ := g_shape oH.2
  obtain ⟨aHD, cHD, rfl⟩ := g_shape oHD
  obtain ⟨aHL, cHL, rfl⟩ := g_shape oHL
  have NH := hide (OwnBx.base oH)
  have OH := hide oH
  clear oH
  have NHD := hide (fun g (h : Value.ownBlock _ = some g) => World.ownsRow.lt oHD g h)
  have RHD := hide oHD
  clear oHD
  have NHL := hide (fun g (h : Value.ownBlock _ = some g) => World.ownsRow.lt oHL g h)
  have RHL := hide oHL
  clear oHL
  have SEPH := hide sep
  clear sep
  have RWD_ := hide ((unhide RWD).up hb)
  clear RWD
  have RWD := RWD_
  clear RWD_
  have RWL_ := hide ((unhide RWL).up hb)
  clear RWL
  have RWL := RWL_
  clear RWL_
  have RGD_ := hide ((unhide RGD).up hb)
  clear RGD
  have RGD := RGD_
  clear RGD_
  have RGL_ := hide ((unhide RGL).up hb)
  clear RGL
  have RGL := RGL_
  clear RGL_
  have RQS_ := hide ((unhide RQS).up hb)
  clear RQS
  have RQS := RQS_
  clear RQS_
  have A_ := hide ((unhide A).ups hb)
  clear A
  have A := A_
  clear A_
  have W_ := hide ((unhide W).ups hb)
  clear W
  have W := W_
  clear W_
  have G_ := hide ((unhide G).ups hb)
  clear G
  have G := G_
  clear G_
  have OW_ := hide ((unhide OW).up hb)
  clear OW
  have OW := OW_
  clear OW_
  have OG_ := hide ((unhide OG).up hb)
  clear OG
  have OG := OG_
  clear OG_
  have OQ_ := hide ((unhide OQ).up hb)
  clear OQ
  have OQ := OQ_
  clear OQ_
  have sz30 := hide hb.size
  have BB_ := hide (below_y (unhide BB) hb)
  clear BB
  have BB := BB_
  clear BB_ hb
  clear OQ
  clear RQS
  obtain ⟨w35, hH⟩ : ∃ X, X = w34.alloc (.cells ([.string b2.name, .int .i64 b2.valid, .int .i64 b2.next, .int .i64 b2.mod, .slice amH b2.mails.length cmH, .slice atH b2.tombs.length ctH, .int .i64 b2.hor] : List Value).toArray 32) := ⟨_, rfl⟩
  have Hx : HasObj w35 w34.heap.size 32 [.string b2.name, .int .i64 b2.valid, .int .i64 b2.next, .int .i64 b2.mod, .slice amH b2.mails.length cmH, .slice atH b2.tombs.length ctH, .int .i64 b2.hor] := by rw [hH]; exact HasObj.new _ _ _
  have hbn : Below w34.heap.size w34 w35 := by rw [hH]; exact (Below.refl _ _).alloc (Nat.le_refl _) _
  have EH := hH.symm
  clear hH
  have RWD_ := hide ((unhide RWD).up hbn)
  clear RWD
  have RWD := RWD_
  clear RWD_
  have RWL_ := hide ((unhide RWL).up hbn)
  clear RWL
  have RWL := RWL_
  clear RWL_
  have RGD_ := hide ((unhide RGD).up hbn)
  clear RGD
  have RGD := RGD_
  clear RGD_
  have RGL_ := hide ((unhide RGL).up hbn)
  clear RGL
  have RGL := RGL_
  clear RGL_
  have RHD_ := hide ((unhide RHD).up hbn)
  clear RHD
  have RHD := RHD_
  clear RHD_
  have RHL_ := hide ((unhide RHL).up hbn)
  clear RHL
  have RHL := RHL_
  clear RHL_
  have A_ := hide ((unhide A).ups hbn)
  clear A
  have A := A_
  clear A_
  have W_ := hide ((unhide W).ups hbn)
  clear W
  have W := W_
  clear W_
  have G_ := hide ((unhide G).ups hbn)
  clear G
  have G := G_
  clear G_
  have OW_ := hide ((unhide OW).up hbn)
  clear OW
  have OW := OW_
  clear OW_
  have OG_ := hide ((unhide OG).up hbn)
  clear OG
  have OG := OG_
  clear OG_
  have OH_ := hide ((unhide OH).up hbn)
  clear OH
  have OH := OH_
  clear OH_
  have sz31 := hide hbn.size
  have BB_ := hide (below_y (unhide BB) hbn)
  clear BB
  have BB := BB_
  clear BB_ hbn
  have H := hide Hx
  clear Hx
  have Hc0 := (unhide H).cell 0 rfl
  have Hc1 := (unhide H).cell 1 rfl
  have Hc2 := (unhide H).cell 2 rfl
  have Hc3 := (unhide H).cell 3 rfl
  have Hc4 := (unhide H).cell 4 rfl
  have Hc5 := (unhide H).cell 5 rfl
  have Hc6 := (unhide H).cell 6 rfl
  have Wc0 := (unhide W).cell 0 rfl
  have Wc1 := (unhide W).cell 1 rfl
  have Wc2 := (unhide W).cell 2 rfl
  have Wc3 := (unhide W).cell 3 rfl
  have Wc4 := (unhide W).cell 4 rfl
  have Wc5 := (unhide W).cell 5 rfl
  have Wc6 := (unhide W).cell 6 rfl
  go_wp2_with fail
  clear Hc0 Hc1 Hc2 Hc3 Hc4 Hc5 Hc6 Wc0 Wc1 Wc2 Wc3 Wc4 Wc5 Wc6
  refine (eqBox_same b2 _ _ _ _ _ _ _ (unhide AL).1 (unhide AL).2.1 (unhide OH) (unhide OW)).mono ?_
  rintro e w36 ⟨rfl, hb⟩
  have RWD_ := hide ((unhide RWD).up hb)
  clear RWD
  have RWD := RWD_
  clear RWD_
  have RWL_ := hide ((unhide RWL).up hb)
  clear RWL
  have RWL := RWL_
  clear RWL_
  have RGD_ := hide ((unhide RGD).up hb)
  clear RGD
  have RGD := RGD_
  clear RGD_
  have RGL_ := hide ((unhide RGL).up hb)
  clear RGL
  have RGL := RGL_
  clear RGL_
  have RHD_ := hide ((unhide RHD).up hb)
  clear RHD
  have RHD := RHD_
  clear RHD_
  have RHL_ := hide ((unhide RHL).up hb)
  clear RHL
  have RHL := RHL_
  clear RHL_
  have A_ := hide ((unhide A).ups hb)
  clear A
  have A := A_
  clear A_
  have W_ := hide ((unhide W).ups hb)
  clear W
  have W := W_
  clear W_
  have G_ := hide ((unhide G).ups hb)
  clear G
  have G := G_
  clear G_
  have H_ := hide ((unhide H).ups hb)
  clear H
  have H := H_
  clear H_
  have OW_ := hide ((unhide OW).up hb)
  clear OW
  have OW := OW_
  clear OW_
  have OG_ := hide ((unhide OG).up hb)
  clear OG
  have OG := OG_
  clear OG_
  have OH_ := hide ((unhide OH).up hb)
  clear OH
  have OH := OH_
  clear OH_
  have sz32 := hide hb.size
  have BB_ := hide (below_y (unhide BB) hb)
  clear BB
  have BB := BB_
  clear BB_ hb
  go_wp2_with fail
  refine (eqRangeS_same lD _ _ _ _ _ ((unhide AL).2.2.1) (unhide RHD) (unhide RWD)).mono ?_
  rintro e w37 ⟨rfl, hb⟩
  have RWD_ := hide ((unhide RWD).up hb)
  clear RWD
  have RWD := RWD_
  clear RWD_
  have RWL_ := hide ((unhide RWL).up hb)
  clear RWL
  have RWL := RWL_
  clear RWL_
  have RGD_ := hide ((unhide RGD).up hb)
  clear RGD
  have RGD := RGD_
  clear RGD_
  have RGL_ := hide ((unhide RGL).up hb)
  clear RGL
  have RGL := RGL_
  clear RGL_
  have RHD_ := hide ((unhide RHD).up hb)
  clear RHD
  have RHD := RHD_
  clear RHD_
  have RHL_ := hide ((unhide RHL).up hb)
  clear RHL
  have RHL := RHL_
  clear RHL_
  have A_ := hide ((unhide A).ups hb)
  clear A
  have A := A_
  clear A_
  have W_ := hide ((unhide W).ups hb)
  clear W
  have W := W_
  clear W_
  have G_ := hide ((unhide G).ups hb)
  clear G
  have G := G_
  clear G_
  have H_ := hide ((unhide H).ups hb)
  clear H
  have H := H_
  clear H_
  have OW_ := hide ((unhide OW).up hb)
  clear OW
  have OW := OW_
  clear OW_
  have OG_ := hide ((unhide OG).up hb)
  clear OG
  have OG := OG_
  clear OG_
  have OH_ := hide ((unhide OH).up hb)
  clear OH
  have OH := OH_
  clear OH_
  have sz33 := hide hb.size
  have BB_ := hide (below_y (unhide BB) hb)
  clear BB
  have BB := BB_
  clear BB_ hb
  go_wp2_with fail
  refine (eqRangeS_same lL _ _ _ _ _ ((unhide AL).2.2.2) (unhide RHL) (unhide RWL)).mono ?_
  rintro e w38 ⟨rfl, hb⟩
  have RWD_ := hide ((unhide RWD).up hb)
  clear RWD
  have RWD := RWD_
  clear RWD_
  have RWL_ := hide ((unhide RWL).up hb)
  clear RWL
  have RWL := RWL_
  clear RWL_
  have RGD_ := hide ((unhide RGD).up hb)
  clear RGD
  have RGD := RGD_
  clear RGD_
  have RGL_ := hide ((unhide RGL).up hb)
  clear RGL
  have RGL := RGL_
  clear RGL_
  have RHD_ := hide ((unhide RHD).up hb)
  clear RHD
  have RHD := RHD_
  clear RHD_
  have RHL_ := hide ((unhide RHL).up hb)
  clear RHL
  have RHL := RHL_
  clear RHL_
  have A_ := hide ((unhide A).ups hb)
  clear A
  have A := A_
  clear A_
  have W_ := hide ((unhide W).ups hb)
  clear W
  have W := W_
  clear W_
  have G_ := hide ((unhide G).ups hb)
  clear G
  have G := G_
  clear G_
  have H_ := hide ((unhide H).ups hb)
  clear H
  have H := H_
  clear H_
  have OW_ := hide ((unhide OW).up hb)
  clear OW
  have OW := OW_
  clear OW_
  have OG_ := hide ((unhide OG).up hb)
  clear OG
  have OG := OG_
  clear OG_
  have OH_ := hide ((unhide OH).up hb)
  clear OH
  have OH := OH_
  clear OH_
  have sz34 := hide hb.size
  have BB_ := hide (below_y (unhide BB) hb)
  clear BB
  have BB := BB_
  clear BB_ hb
  clear EH
  have Gc0 := (unhide G).cell 0 rfl
  have Gc1 := (unhide G).cell 1 rfl
  have Gc2 := (unhide G).cell 2 rfl
  have Gc3 := (unhide G).cell 3 rfl
  have Gc4 := (unhide G).cell 4 rfl
  have Gc5 := (unhide G).cell 5 rfl
  have Gc6 := (unhide G).cell 6 rfl
  go_wp2_with fail
  clear Gc0 Gc1 Gc2 Gc3 Gc4 Gc5 Gc6
  refine (heldBox_any b2 _ _ _ 1 _ (unhide AL).1 (unhide AL).2.1 (by decide) (by decide) (unhide OG)).mono ?_
  rintro e w39 ⟨rfl, hb⟩
  have RWD_ := hide ((unhide RWD).up hb)
  clear RWD
  have RWD := RWD_
  clear RWD_
  have RWL_ := hide ((unhide RWL).up hb)
  clear RWL
  have RWL := RWL_
  clear RWL_
  have RGD_ := hide ((unhide RGD).up hb)
  clear RGD
  have RGD := RGD_
  clear RGD_
  have RGL_ := hide ((unhide RGL).up hb)
  clear RGL
  have RGL := RGL_
  clear RGL_
  have RHD_ := hide ((unhide RHD).up hb)
  clear RHD
  have RHD := RHD_
  clear RHD_
  have RHL_ := hide ((unhide RHL).up hb)
  clear RHL
  have RHL := RHL_
  clear RHL_
  have A_ := hide ((unhide A).ups hb)
  clear A
  have A := A_
  clear A_
  have W_ := hide ((unhide W).ups hb)
  clear W
  have W := W_
  clear W_
  have G_ := hide ((unhide G).ups hb)
  clear G
  have G := G_
  clear G_
  have H_ := hide ((unhide H).ups hb)
  clear H
  have H := H_
  clear H_
  have OW_ := hide ((unhide OW).up hb)
  clear OW
  have OW := OW_
  clear OW_
  have OG_ := hide ((unhide OG).up hb)
  clear OG
  have OG := OG_
  clear OG_
  have OH_ := hide ((unhide OH).up hb)
  clear OH
  have OH := OH_
  clear OH_
  have sz35 := hide hb.size
  have BB_ := hide (below_y (unhide BB) hb)
  clear BB
  have BB := BB_
  clear BB_ hb
  go_wp2_with fail
  refine (heldR_at lD.length _ _ _ _ (by omega) (by omega) (unhide AL).2.2.1 (unhide RGD)).mono ?_
  rintro e w40 ⟨rfl, hw⟩
  subst w40
  go_wp2_with fail
  refine (heldR_at lL.length _ _ _ _ (by omega) (by omega) (unhide AL).2.2.2 (unhide RGL)).mono ?_
  rintro e w41 ⟨rfl, hw⟩
  subst w41
  go_wp2
  go_ret
  exact ⟨rfl, unhide BB⟩
end Go.Proofs.YtkjlponggednoabGreat
