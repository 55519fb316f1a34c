/- The walks of exact laws on boxes: ForgetTombs, Changed, Vanished: over whatever contracts of the program's own functions. Made by gen_boxlaws2.py. -/
import Derived.Test.YtkjlponggednoacForgetS
import Derived.Test.YtkjlponggednoacChangedS
import Derived.Test.YtkjlponggednoacVanishedS
import Derived.Test.YtkjlponggednoacBoxA
import Derived.Test.YtkjlponggednoacRangeMarks
import Derived.Test.YtkjlponggednoacRegA
namespace Go.Proofs.Ytkjlponggednoac
open Go.RowKit
open Plain
set_option linter.unusedVariables false

theorem OwnR.drew {B : Nat} {W : World} {v : Value} {l : List Rg} (h : OwnR B W v l) : OwnR B W.drew v l := h
namespace Plain
theorem forgetV_len (b : Bx) (upto : Int) (h1 : b.mails.length ≤ 1048576) (h2 : b.tombs.length ≤ 1048576) : (forgetV b upto).mails.length ≤ 1048576 ∧ (forgetV b upto).tombs.length ≤ 1048576 := by
  unfold forgetV
  split
  · exact ⟨h1, Nat.le_trans (List.length_filter_le _ _) h2⟩
  · exact ⟨h1, h2⟩
theorem changedL_len (b : Bx) (since : Int) (h1 : b.mails.length ≤ 1048576) : (changedL b since).length ≤ 1048576 := Nat.le_trans (List.length_filter_le _ _) h1
theorem vanV_len (b : Bx) (since : Int) : (vanV b since).1.length ≤ 1048576 := by
  unfold vanV
  split
  · rw [← gone_all]; exact Nat.le_trans (gone_len b since _) (by decide)
  · simp
end Plain

set_option maxHeartbeats 16000000 in
set_option maxRecDepth 100000 in
theorem FnExactForgetTombs_walk (b : Bx) (a1 a2 : Option Addr) (c1 c2 : Nat) (upto : Int) (w : World) (h : ArgBx w.heap.size w a1 a2 b)
    (CI : ∀ (m t : Value) (B : Nat) (W : World), SmallBx 1048576 b → OwnBx B W m t b → Below w.heap.size w W → Calls Try.prog 21 #[boxV b m t, .int .i64 upto] W fun e w' => ∃ m' t', e = .returned (boxV (forgetV b upto) m' t') ∧ OwnBx W.heap.size w' m' t' (forgetV b upto) ∧ Below W.heap.size W w') :
    Calls Try.prog 5 #[.agg #[.string b.name, .int .i64 b.valid, .int .i64 b.next, .int .i64 b.mod, .slice a1 b.mails.length c1, .slice a2 b.tombs.length c2, .int .i64 b.hor], .int .i64 upto] w fun e w' => e = .returned (.bool true) ∧ Below w.heap.size w w' := by
  have BB := hide (Below.refl w.heap.size w)
  have HA := hide h
  have CH := hide CI
  clear h CI
  obtain ⟨w1, hA⟩ : ∃ X, X = w.alloc (.cells ([.string b.name, .int .i64 b.valid, .int .i64 b.next, .int .i64 b.mod, .slice a1 b.mails.length c1, .slice a2 b.tombs.length c2, .int .i64 b.hor] : List Value).toArray 25) := ⟨_, rfl⟩
  have Ax : HasObj w1 w.heap.size 25 [.string b.name, .int .i64 b.valid, .int .i64 b.next, .int .i64 b.mod, .slice a1 b.mails.length c1, .slice a2 b.tombs.length c2, .int .i64 b.hor] := by rw [hA]; exact HasObj.new _ _ _
  have hbn : Below w.heap.size w w1 := by rw [hA]; exact (Below.refl _ _).alloc (Nat.le_refl _) _
  have EA := hA.symm
  clear hA
  have sz1 := hide hbn.size
  have BB_ := hide (below_y (unhide BB) hbn)
  clear BB
  have BB := BB_
  clear BB_ hbn
  have A := hide Ax
  clear Ax
  have SZ := hide (szBox_any b a1 a2 c1 c2 w1 ((unhide HA).up (unhide BB)))
  have Ac0 := (unhide A).cell 0 rfl
  have Ac1 := (unhide A).cell 1 rfl
  have Ac2 := (unhide A).cell 2 rfl
  have Ac3 := (unhide A).cell 3 rfl
  have Ac4 := (unhide A).cell 4 rfl
  have Ac5 := (unhide A).cell 5 rfl
  have Ac6 := (unhide A).cell 6 rfl
  go_enter Try.func5, Try.ntmps5
  go_wp2_with fail
  clear Ac0 Ac1 Ac2 Ac3 Ac4 Ac5 Ac6
  clear EA
  refine (unhide SZ).mono ?_
  rintro e wz ⟨⟨q, rfl, hq⟩, hb⟩
  have A_ := hide ((unhide A).ups hb)
  clear A
  have A := A_
  clear A_
  have sz2 := hide hb.size
  have BB_ := hide (below_y (unhide BB) hb)
  clear BB
  have BB := BB_
  clear BB_ hb
  clear SZ
  rcases hq with rfl | ⟨q, rfl, hq, hsm⟩
  · go_wp2
    go_ret
    exact ⟨rfl, unhide BB⟩
  have i1 : ¬ (q : Int) < 0 := by omega
  have SM := hide hsm
  clear hsm
  have TB := hide (fun (W : World) (hb : Below w.heap.size w W) => toBox_any b a1 a2 c1 c2 W (unhide SM) ((unhide HA).up hb))
  have AL := hide (forgetV_len b upto (unhide SM).2.1.1 (unhide SM).2.2)
  have SA := hide (fun (m t : Value) (B : Nat) (W : World) (h : OwnBx B W m t b) => spec_ForgetTombs_any b m t B upto W (unhide SM).fit h)
  have CJ := hide (fun (m t : Value) (B : Nat) (W : World) (h : OwnBx B W m t b) (hb : Below w.heap.size w W) => unhide CH m t B W (unhide SM) h hb)
  clear CH
  generalize forgetV b upto = b2 at *
  have Ac0 := (unhide A).cell 0 rfl
  have Ac1 := (unhide A).cell 1 rfl
  have Ac2 := (unhide A).cell 2 rfl
  have Ac3 := (unhide A).cell 3 rfl
  have Ac4 := (unhide A).cell 4 rfl
  have Ac5 := (unhide A).cell 5 rfl
  have Ac6 := (unhide A).cell 6 rfl
  go_wp2_with fail
  clear Ac0 Ac1 Ac2 Ac3 Ac4 Ac5 Ac6
  refine (unhide TB _ (unhide BB)).mono ?_
  rintro e w3 ⟨mP, tP, rfl, oP, hb⟩
  obtain ⟨amP, cmP, rfl⟩ := g_shape oP.1
  obtain ⟨atP, ctP, rfl⟩ := g_shape oP.2
  have NP := hide (OwnBx.base oP)
  have OP := hide oP
  clear oP
  have A_ := hide ((unhide A).ups hb)
  clear A
  have A := A_
  clear A_
  have sz3 := hide hb.size
  have BB_ := hide (below_y (unhide BB) hb)
  clear BB
  have BB := BB_
  clear BB_ hb
  go_wp2_with fail
  refine (unhide SA _ _ _ _ (unhide OP)).mono ?_
  rintro e w4 ⟨mW, tW, rfl, oW, hb⟩
  obtain ⟨amW, cmW, rfl⟩ := g_shape oW.1
  obtain ⟨atW, ctW, rfl⟩ := g_shape oW.2
  have NW := hide (OwnBx.base oW)
  have OW := hide oW
  clear oW
  have A_ := hide ((unhide A).ups hb)
  clear A
  have A := A_
  clear A_
  have OP_ := hide ((unhide OP).up hb)
  clear OP
  have OP := OP_
  clear OP_
  have sz4 := hide hb.size
  have BB_ := hide (below_y (unhide BB) hb)
  clear BB
  have BB := BB_
  clear BB_ hb
  clear OP
  obtain ⟨w5, hW⟩ : ∃ X, X = w4.alloc (.cells ([.string b2.name, .int .i64 b2.valid, .int .i64 b2.next, .int .i64 b2.mod, .slice amW b2.mails.length cmW, .slice atW b2.tombs.length ctW, .int .i64 b2.hor] : List Value).toArray 31) := ⟨_, rfl⟩
  have Wx : HasObj w5 w4.heap.size 31 [.string b2.name, .int .i64 b2.valid, .int .i64 b2.next, .int .i64 b2.mod, .slice amW b2.mails.length cmW, .slice atW b2.tombs.length ctW, .int .i64 b2.hor] := by rw [hW]; exact HasObj.new _ _ _
  have hbn : Below w4.heap.size w4 w5 := by rw [hW]; exact (Below.refl _ _).alloc (Nat.le_refl _) _
  have EW := hW.symm
  clear hW
  have A_ := hide ((unhide A).ups hbn)
  clear A
  have A := A_
  clear A_
  have OW_ := hide ((unhide OW).up hbn)
  clear OW
  have OW := OW_
  clear OW_
  have sz5 := hide hbn.size
  have BB_ := hide (below_y (unhide BB) hbn)
  clear BB
  have BB := BB_
  clear BB_ hbn
  have W := hide Wx
  clear Wx
  have Ac0 := (unhide A).cell 0 rfl
  have Ac1 := (unhide A).cell 1 rfl
  have Ac2 := (unhide A).cell 2 rfl
  have Ac3 := (unhide A).cell 3 rfl
  have Ac4 := (unhide A).cell 4 rfl
  have Ac5 := (unhide A).cell 5 rfl
  have Ac6 := (unhide A).cell 6 rfl
  go_wp2_with fail
  clear Ac0 Ac1 Ac2 Ac3 Ac4 Ac5 Ac6
  refine (unhide TB _ (unhide BB)).mono ?_
  rintro e w7 ⟨mX, tX, rfl, oX, hb⟩
  obtain ⟨amX, cmX, rfl⟩ := g_shape oX.1
  obtain ⟨atX, ctX, rfl⟩ := g_shape oX.2
  have NX := hide (OwnBx.base oX)
  have OX := hide oX
  clear oX
  have A_ := hide ((unhide A).ups hb)
  clear A
  have A := A_
  clear A_
  have W_ := hide ((unhide W).ups hb)
  clear W
  have W := W_
  clear W_
  have OW_ := hide ((unhide OW).up hb)
  clear OW
  have OW := OW_
  clear OW_
  have sz6 := hide hb.size
  have BB_ := hide (below_y (unhide BB) hb)
  clear BB
  have BB := BB_
  clear BB_ hb
  clear EW
  obtain ⟨w8, hX⟩ : ∃ X, X = w7.alloc (.cells ([.string b.name, .int .i64 b.valid, .int .i64 b.next, .int .i64 b.mod, .slice amX b.mails.length cmX, .slice atX b.tombs.length ctX, .int .i64 b.hor] : List Value).toArray 31) := ⟨_, rfl⟩
  have Xx : HasObj w8 w7.heap.size 31 [.string b.name, .int .i64 b.valid, .int .i64 b.next, .int .i64 b.mod, .slice amX b.mails.length cmX, .slice atX b.tombs.length ctX, .int .i64 b.hor] := by rw [hX]; exact HasObj.new _ _ _
  have hbn : Below w7.heap.size w7 w8 := by rw [hX]; exact (Below.refl _ _).alloc (Nat.le_refl _) _
  have EX := hX.symm
  clear hX
  have A_ := hide ((unhide A).ups hbn)
  clear A
  have A := A_
  clear A_
  have W_ := hide ((unhide W).ups hbn)
  clear W
  have W := W_
  clear W_
  have OW_ := hide ((unhide OW).up hbn)
  clear OW
  have OW := OW_
  clear OW_
  have OX_ := hide ((unhide OX).up hbn)
  clear OX
  have OX := OX_
  clear OX_
  have sz7 := hide hbn.size
  have BB_ := hide (below_y (unhide BB) hbn)
  clear BB
  have BB := BB_
  clear BB_ hbn
  have X := hide Xx
  clear Xx
  have Xc0 := (unhide X).cell 0 rfl
  have Xc1 := (unhide X).cell 1 rfl
  have Xc2 := (unhide X).cell 2 rfl
  have Xc3 := (unhide X).cell 3 rfl
  have Xc4 := (unhide X).cell 4 rfl
  have Xc5 := (unhide X).cell 5 rfl
  have Xc6 := (unhide X).cell 6 rfl
  go_wp2_with fail
  clear Xc0 Xc1 Xc2 Xc3 Xc4 Xc5 Xc6
  refine (unhide CJ _ _ _ _ (unhide OX) (unhide BB)).mono ?_
  rintro e w9 ⟨mG, tG, rfl, oG, hb⟩
  obtain ⟨amG, cmG, rfl⟩ := g_shape oG.1
  obtain ⟨atG, ctG, rfl⟩ := g_shape oG.2
  have NG := hide (OwnBx.base oG)
  have OG := hide oG
  clear oG
  have A_ := hide ((unhide A).ups hb)
  clear A
  have A := A_
  clear A_
  have W_ := hide ((unhide W).ups hb)
  clear W
  have W := W_
  clear W_
  have X_ := hide ((unhide X).ups hb)
  clear X
  have X := X_
  clear X_
  have OW_ := hide ((unhide OW).up hb)
  clear OW
  have OW := OW_
  clear OW_
  have OX_ := hide ((unhide OX).up hb)
  clear OX
  have OX := OX_
  clear OX_
  have sz8 := hide hb.size
  have BB_ := hide (below_y (unhide BB) hb)
  clear BB
  have BB := BB_
  clear BB_ hb
  clear EX
  obtain ⟨w10, hG⟩ : ∃ X, X = w9.alloc (.cells ([.string b2.name, .int .i64 b2.valid, .int .i64 b2.next, .int .i64 b2.mod, .slice amG b2.mails.length cmG, .slice atG b2.tombs.length ctG, .int .i64 b2.hor] : List Value).toArray 31) := ⟨_, rfl⟩
  have Gx : HasObj w10 w9.heap.size 31 [.string b2.name, .int .i64 b2.valid, .int .i64 b2.next, .int .i64 b2.mod, .slice amG b2.mails.length cmG, .slice atG b2.tombs.length ctG, .int .i64 b2.hor] := by rw [hG]; exact HasObj.new _ _ _
  have hbn : Below w9.heap.size w9 w10 := by rw [hG]; exact (Below.refl _ _).alloc (Nat.le_refl _) _
  have EG := hG.symm
  clear hG
  have A_ := hide ((unhide A).ups hbn)
  clear A
  have A := A_
  clear A_
  have W_ := hide ((unhide W).ups hbn)
  clear W
  have W := W_
  clear W_
  have X_ := hide ((unhide X).ups hbn)
  clear X
  have X := X_
  clear X_
  have OW_ := hide ((unhide OW).up hbn)
  clear OW
  have OW := OW_
  clear OW_
  have OX_ := hide ((unhide OX).up hbn)
  clear OX
  have OX := OX_
  clear OX_
  have OG_ := hide ((unhide OG).up hbn)
  clear OG
  have OG := OG_
  clear OG_
  have sz9 := hide hbn.size
  have BB_ := hide (below_y (unhide BB) hbn)
  clear BB
  have BB := BB_
  clear BB_ hbn
  have G := hide Gx
  clear Gx
  have Gc0 := (unhide G).cell 0 rfl
  have Gc1 := (unhide G).cell 1 rfl
  have Gc2 := (unhide G).cell 2 rfl
  have Gc3 := (unhide G).cell 3 rfl
  have Gc4 := (unhide G).cell 4 rfl
  have Gc5 := (unhide G).cell 5 rfl
  have Gc6 := (unhide G).cell 6 rfl
  have Wc0 := (unhide W).cell 0 rfl
  have Wc1 := (unhide W).cell 1 rfl
  have Wc2 := (unhide W).cell 2 rfl
  have Wc3 := (unhide W).cell 3 rfl
  have Wc4 := (unhide W).cell 4 rfl
  have Wc5 := (unhide W).cell 5 rfl
  have Wc6 := (unhide W).cell 6 rfl
  go_wp2_with fail
  clear Gc0 Gc1 Gc2 Gc3 Gc4 Gc5 Gc6 Wc0 Wc1 Wc2 Wc3 Wc4 Wc5 Wc6
  refine (eqBox_same b2 _ _ _ _ _ _ _ (unhide AL).1 (unhide AL).2 (unhide OG) (unhide OW)).mono ?_
  rintro e w11 ⟨rfl, hb⟩
  have A_ := hide ((unhide A).ups hb)
  clear A
  have A := A_
  clear A_
  have W_ := hide ((unhide W).ups hb)
  clear W
  have W := W_
  clear W_
  have X_ := hide ((unhide X).ups hb)
  clear X
  have X := X_
  clear X_
  have G_ := hide ((unhide G).ups hb)
  clear G
  have G := G_
  clear G_
  have OW_ := hide ((unhide OW).up hb)
  clear OW
  have OW := OW_
  clear OW_
  have OX_ := hide ((unhide OX).up hb)
  clear OX
  have OX := OX_
  clear OX_
  have OG_ := hide ((unhide OG).up hb)
  clear OG
  have OG := OG_
  clear OG_
  have sz10 := hide hb.size
  have BB_ := hide (below_y (unhide BB) hb)
  clear BB
  have BB := BB_
  clear BB_ hb
  clear EG
  have Xc0 := (unhide X).cell 0 rfl
  have Xc1 := (unhide X).cell 1 rfl
  have Xc2 := (unhide X).cell 2 rfl
  have Xc3 := (unhide X).cell 3 rfl
  have Xc4 := (unhide X).cell 4 rfl
  have Xc5 := (unhide X).cell 5 rfl
  have Xc6 := (unhide X).cell 6 rfl
  have Ac0 := (unhide A).cell 0 rfl
  have Ac1 := (unhide A).cell 1 rfl
  have Ac2 := (unhide A).cell 2 rfl
  have Ac3 := (unhide A).cell 3 rfl
  have Ac4 := (unhide A).cell 4 rfl
  have Ac5 := (unhide A).cell 5 rfl
  have Ac6 := (unhide A).cell 6 rfl
  go_wp2
  refine wp_region_held_drew (S := fun w' => w'.cell? ⟨w7.heap.size, 0, none⟩ = some (.string b.name) ∧ w'.cell? ⟨w7.heap.size, 1, none⟩ = some (.int .i64 b.valid) ∧ w'.cell? ⟨w7.heap.size, 2, none⟩ = some (.int .i64 b.next) ∧ w'.cell? ⟨w7.heap.size, 3, none⟩ = some (.int .i64 b.mod) ∧ w'.cell? ⟨w7.heap.size, 4, none⟩ = some (.slice amX b.mails.length cmX) ∧ w'.cell? ⟨w7.heap.size, 5, none⟩ = some (.slice atX b.tombs.length ctX) ∧ w'.cell? ⟨w7.heap.size, 6, none⟩ = some (.int .i64 b.hor) ∧ w'.cell? ⟨w.heap.size, 0, none⟩ = some (.string b.name) ∧ w'.cell? ⟨w.heap.size, 1, none⟩ = some (.int .i64 b.valid) ∧ w'.cell? ⟨w.heap.size, 2, none⟩ = some (.int .i64 b.next) ∧ w'.cell? ⟨w.heap.size, 3, none⟩ = some (.int .i64 b.mod) ∧ w'.cell? ⟨w.heap.size, 4, none⟩ = some (.slice a1 b.mails.length c1) ∧ w'.cell? ⟨w.heap.size, 5, none⟩ = some (.slice a2 b.tombs.length c2) ∧ w'.cell? ⟨w.heap.size, 6, none⟩ = some (.int .i64 b.hor)) (by kernel_rfl) (⟨Xc0, Xc1, Xc2, Xc3, Xc4, Xc5, Xc6, Ac0, Ac1, Ac2, Ac3, Ac4, Ac5, Ac6⟩) (fun hHeld => ?_)
  refine takeVal 0 (some 31) ?_ rfl (by kernel_rfl) (by kernel_rfl) (by kernel_rfl) rfl (fun _ _ _ h => h) (by rfl) (by assumption) ?_ ?_
  rotate_left
  · (intro w hSw; (try dsimp only at hSw); go_simp <;> with_reducible rfl)
  simp only [Act.put, List.setIfInBounds_toArray, List.set_cons_zero, List.set_cons_succ]
  refine takeVal 1 (some 32) ?_ rfl (by kernel_rfl) (by kernel_rfl) (by kernel_rfl) rfl (fun _ _ _ h => h) (by rfl) (by assumption) ?_ ?_
  rotate_left
  · (intro w hSw; (try dsimp only at hSw); go_simp <;> with_reducible rfl)
  simp only [Act.put, List.setIfInBounds_toArray, List.set_cons_zero, List.set_cons_succ]
  clear Xc0 Xc1 Xc2 Xc3 Xc4 Xc5 Xc6 Ac0 Ac1 Ac2 Ac3 Ac4 Ac5 Ac6
  have A_ := hide (unhide A).drew
  clear A
  have A := A_
  clear A_
  have W_ := hide (unhide W).drew
  clear W
  have W := W_
  clear W_
  have X_ := hide (unhide X).drew
  clear X
  have X := X_
  clear X_
  have G_ := hide (unhide G).drew
  clear G
  have G := G_
  clear G_
  have OW_ := hide (unhide OW).drew
  clear OW
  have OW := OW_
  clear OW_
  have OX_ := hide (unhide OX).drew
  clear OX
  have OX := OX_
  clear OX_
  have OG_ := hide (unhide OG).drew
  clear OG
  have OG := OG_
  clear OG_
  have BB_ := hide (unhide BB).drew
  clear BB
  have BB := BB_
  clear BB_
  refine wpAnyH_ready (rs := [2]) (by kernel_rfl) (by simp) ?_
  refine AllReadyH.cons rfl (fun K hK => ?_) AllReadyH.nil
  go_simp
  refine (unhide TB _ (unhide BB)).mono ?_
  rintro e w12 ⟨mC13, tC13, rfl, oC13, hb1⟩
  go_wp2_with fail
  refine hK.out _ _ (⟨((unhide X).ups hb1).cell 0 rfl, ((unhide X).ups hb1).cell 1 rfl, ((unhide X).ups hb1).cell 2 rfl, ((unhide X).ups hb1).cell 3 rfl, ((unhide X).ups hb1).cell 4 rfl, ((unhide X).ups hb1).cell 5 rfl, ((unhide X).ups hb1).cell 6 rfl, ((unhide A).ups hb1).cell 0 rfl, ((unhide A).ups hb1).cell 1 rfl, ((unhide A).ups hb1).cell 2 rfl, ((unhide A).ups hb1).cell 3 rfl, ((unhide A).ups hb1).cell 4 rfl, ((unhide A).ups hb1).cell 5 rfl, ((unhide A).ups hb1).cell 6 rfl⟩) (fun hHeld2 => ?_)
  clear hK K hHeld
  have hHeld := hHeld2; clear hHeld2
  try simp only [Act.put, List.setIfInBounds_toArray, List.set_cons_zero, List.set_cons_succ]
  obtain ⟨amC13, cmC13, rfl⟩ := g_shape oC13.1
  obtain ⟨atC13, ctC13, rfl⟩ := g_shape oC13.2
  have OC13 := hide oC13
  clear oC13
  have A_ := hide ((unhide A).ups hb1)
  clear A
  have A := A_
  clear A_
  have W_ := hide ((unhide W).ups hb1)
  clear W
  have W := W_
  clear W_
  have X_ := hide ((unhide X).ups hb1)
  clear X
  have X := X_
  clear X_
  have G_ := hide ((unhide G).ups hb1)
  clear G
  have G := G_
  clear G_
  have OW_ := hide ((unhide OW).up hb1)
  clear OW
  have OW := OW_
  clear OW_
  have OX_ := hide ((unhide OX).up hb1)
  clear OX
  have OX := OX_
  clear OX_
  have OG_ := hide ((unhide OG).up hb1)
  clear OG
  have OG := OG_
  clear OG_
  have sz11 := hide hb1.size
  have BB_ := hide (below_y (unhide BB) hb1)
  clear BB
  have BB := BB_
  clear BB_ hb1
  refine wpAnyH_ready (rs := [3]) (by kernel_rfl) (by simp) ?_
  refine AllReadyH.cons rfl (fun K hK => ?_) AllReadyH.nil
  go_simp
  refine (eqBox_same b _ _ _ _ _ _ _ (unhide SM).2.1.1 (unhide SM).2.2 (unhide OX) (unhide OC13)).mono ?_
  rintro e w13 ⟨rfl, hb2⟩
  go_wp2_with fail
  refine hK.out _ _ (⟨((unhide X).ups hb2).cell 0 rfl, ((unhide X).ups hb2).cell 1 rfl, ((unhide X).ups hb2).cell 2 rfl, ((unhide X).ups hb2).cell 3 rfl, ((unhide X).ups hb2).cell 4 rfl, ((unhide X).ups hb2).cell 5 rfl, ((unhide X).ups hb2).cell 6 rfl, ((unhide A).ups hb2).cell 0 rfl, ((unhide A).ups hb2).cell 1 rfl, ((unhide A).ups hb2).cell 2 rfl, ((unhide A).ups hb2).cell 3 rfl, ((unhide A).ups hb2).cell 4 rfl, ((unhide A).ups hb2).cell 5 rfl, ((unhide A).ups hb2).cell 6 rfl⟩) (fun hHeld2 => ?_)
  clear hK K hHeld
  have hHeld := hHeld2; clear hHeld2
  try simp only [Act.put, List.setIfInBounds_toArray, List.set_cons_zero, List.set_cons_succ]
  have A_ := hide ((unhide A).ups hb2)
  clear A
  have A := A_
  clear A_
  have W_ := hide ((unhide W).ups hb2)
  clear W
  have W := W_
  clear W_
  have X_ := hide ((unhide X).ups hb2)
  clear X
  have X := X_
  clear X_
  have G_ := hide ((unhide G).ups hb2)
  clear G
  have G := G_
  clear G_
  have OW_ := hide ((unhide OW).up hb2)
  clear OW
  have OW := OW_
  clear OW_
  have OX_ := hide ((unhide OX).up hb2)
  clear OX
  have OX := OX_
  clear OX_
  have OG_ := hide ((unhide OG).up hb2)
  clear OG
  have OG := OG_
  clear OG_
  have sz12 := hide hb2.size
  have BB_ := hide (below_y (unhide BB) hb2)
  clear BB
  have BB := BB_
  clear BB_ hb2
  refine takeVal 4 (some 35) ?_ rfl (by kernel_rfl) (by kernel_rfl) (by kernel_rfl) rfl (fun _ _ _ h => h) (by rfl) (by assumption) ?_ ?_
  rotate_left
  · (intro w hSw; (try dsimp only at hSw); go_simp <;> with_reducible rfl)
  simp only [Act.put, List.setIfInBounds_toArray, List.set_cons_zero, List.set_cons_succ]
  refine wpAnyH_done (by kernel_rfl) ?_ _
  have Xc0 := (unhide X).cell 0 rfl
  have Xc1 := (unhide X).cell 1 rfl
  have Xc2 := (unhide X).cell 2 rfl
  have Xc3 := (unhide X).cell 3 rfl
  have Xc4 := (unhide X).cell 4 rfl
  have Xc5 := (unhide X).cell 5 rfl
  have Xc6 := (unhide X).cell 6 rfl
  go_wp2_with fail
  clear Xc0 Xc1 Xc2 Xc3 Xc4 Xc5 Xc6
  refine (markBox_any b _ _ _ 1 _ (unhide SM).2.1.1 (unhide SM).2.2 (by decide) (by decide) (unhide OX)).mono ?_
  rintro e w14 ⟨rfl, om, hg⟩
  have A_ := hide (hg.obj (unhide A) (fun hh => by rcases hh with hh | hh; exact (unhide A).not_row (by decide) (unhide OX).1 hh; exact (unhide A).not_row (by decide) (unhide OX).2 hh))
  have W_ := hide (hg.obj (unhide W) (fun hh => by rcases hh with hh | hh; exact (unhide W).not_row (by decide) (unhide OX).1 hh; exact (unhide W).not_row (by decide) (unhide OX).2 hh))
  have X_ := hide (hg.obj (unhide X) (fun hh => by rcases hh with hh | hh; exact (unhide X).not_row (by decide) (unhide OX).1 hh; exact (unhide X).not_row (by decide) (unhide OX).2 hh))
  have G_ := hide (hg.obj (unhide G) (fun hh => by rcases hh with hh | hh; exact (unhide G).not_row (by decide) (unhide OX).1 hh; exact (unhide G).not_row (by decide) (unhide OX).2 hh))
  have OW_ := hide ((unhide OW).but hg (fun g hg1 hg2 => by have q1 := unhide NW g hg1; have q2 := unhide NX g hg2; have z1 := unhide sz1; have z2 := unhide sz2; have z3 := unhide sz3; have z4 := unhide sz4; have z5 := unhide sz5; have z6 := unhide sz6; have z7 := unhide sz7; have z8 := unhide sz8; have z9 := unhide sz9; have z10 := unhide sz10; have z11 := unhide sz11; have z12 := unhide sz12; omega))
  have OG_ := hide ((unhide OG).but hg (fun g hg1 hg2 => by have q1 := unhide NG g hg1; have q2 := unhide NX g hg2; have z1 := unhide sz1; have z2 := unhide sz2; have z3 := unhide sz3; have z4 := unhide sz4; have z5 := unhide sz5; have z6 := unhide sz6; have z7 := unhide sz7; have z8 := unhide sz8; have z9 := unhide sz9; have z10 := unhide sz10; have z11 := unhide sz11; have z12 := unhide sz12; omega))
  have BB_ : Hid (Below w.heap.size w w14) := (unhide BB).trans (hg.toBelow (unhide BB).size (fun g hh => by have q2 := unhide NX g hh; have z1 := unhide sz1; have z2 := unhide sz2; have z3 := unhide sz3; have z4 := unhide sz4; have z5 := unhide sz5; have z6 := unhide sz6; have z7 := unhide sz7; have z8 := unhide sz8; have z9 := unhide sz9; have z10 := unhide sz10; have z11 := unhide sz11; have z12 := unhide sz12; omega))
  have sz13 := hide hg.size
  clear A
  have A := A_
  clear A_
  clear W
  have W := W_
  clear W_
  clear X
  have X := X_
  clear X_
  clear G
  have G := G_
  clear G_
  clear OW
  have OW := OW_
  clear OW_
  clear OG
  have OG := OG_
  clear OG_
  clear BB
  have BB := BB_
  clear BB_
  clear OX
  have OX := hide om
  clear om hg
  clear OX X
  have j1 : ¬ (1 : Int) + (b.mails.length : Int) * 4 + (b.tombs.length : Int) * 2 < 0 := by omega
  have Gc0 := (unhide G).cell 0 rfl
  have Gc1 := (unhide G).cell 1 rfl
  have Gc2 := (unhide G).cell 2 rfl
  have Gc3 := (unhide G).cell 3 rfl
  have Gc4 := (unhide G).cell 4 rfl
  have Gc5 := (unhide G).cell 5 rfl
  have Gc6 := (unhide G).cell 6 rfl
  have Wc0 := (unhide W).cell 0 rfl
  have Wc1 := (unhide W).cell 1 rfl
  have Wc2 := (unhide W).cell 2 rfl
  have Wc3 := (unhide W).cell 3 rfl
  have Wc4 := (unhide W).cell 4 rfl
  have Wc5 := (unhide W).cell 5 rfl
  have Wc6 := (unhide W).cell 6 rfl
  go_wp2_with fail
  clear Gc0 Gc1 Gc2 Gc3 Gc4 Gc5 Gc6 Wc0 Wc1 Wc2 Wc3 Wc4 Wc5 Wc6
  refine (eqBox_same b2 _ _ _ _ _ _ _ (unhide AL).1 (unhide AL).2 (unhide OG) (unhide OW)).mono ?_
  rintro e w15 ⟨rfl, hb⟩
  have A_ := hide ((unhide A).ups hb)
  clear A
  have A := A_
  clear A_
  have W_ := hide ((unhide W).ups hb)
  clear W
  have W := W_
  clear W_
  have G_ := hide ((unhide G).ups hb)
  clear G
  have G := G_
  clear G_
  have OW_ := hide ((unhide OW).up hb)
  clear OW
  have OW := OW_
  clear OW_
  have OG_ := hide ((unhide OG).up hb)
  clear OG
  have OG := OG_
  clear OG_
  have sz14 := hide hb.size
  have BB_ := hide (below_y (unhide BB) hb)
  clear BB
  have BB := BB_
  clear BB_ hb
  have Gc0 := (unhide G).cell 0 rfl
  have Gc1 := (unhide G).cell 1 rfl
  have Gc2 := (unhide G).cell 2 rfl
  have Gc3 := (unhide G).cell 3 rfl
  have Gc4 := (unhide G).cell 4 rfl
  have Gc5 := (unhide G).cell 5 rfl
  have Gc6 := (unhide G).cell 6 rfl
  go_wp2_with fail
  clear Gc0 Gc1 Gc2 Gc3 Gc4 Gc5 Gc6
  refine (markBox_any b2 _ _ _ 1 _ (unhide AL).1 (unhide AL).2 (by decide) (by decide) (unhide OG)).mono ?_
  rintro e w16 ⟨rfl, om, hg⟩
  have A_ := hide (hg.obj (unhide A) (fun hh => by rcases hh with hh | hh; exact (unhide A).not_row (by decide) (unhide OG).1 hh; exact (unhide A).not_row (by decide) (unhide OG).2 hh))
  have W_ := hide (hg.obj (unhide W) (fun hh => by rcases hh with hh | hh; exact (unhide W).not_row (by decide) (unhide OG).1 hh; exact (unhide W).not_row (by decide) (unhide OG).2 hh))
  have G_ := hide (hg.obj (unhide G) (fun hh => by rcases hh with hh | hh; exact (unhide G).not_row (by decide) (unhide OG).1 hh; exact (unhide G).not_row (by decide) (unhide OG).2 hh))
  have OW_ := hide ((unhide OW).but hg (fun g hg1 hg2 => by have q1 := unhide NW g hg1; have q2 := unhide NG g hg2; have z1 := unhide sz1; have z2 := unhide sz2; have z3 := unhide sz3; have z4 := unhide sz4; have z5 := unhide sz5; have z6 := unhide sz6; have z7 := unhide sz7; have z8 := unhide sz8; have z9 := unhide sz9; have z10 := unhide sz10; have z11 := unhide sz11; have z12 := unhide sz12; have z13 := unhide sz13; have z14 := unhide sz14; omega))
  have BB_ : Hid (Below w.heap.size w w16) := (unhide BB).trans (hg.toBelow (unhide BB).size (fun g hh => by have q2 := unhide NG g hh; have z1 := unhide sz1; have z2 := unhide sz2; have z3 := unhide sz3; have z4 := unhide sz4; have z5 := unhide sz5; have z6 := unhide sz6; have z7 := unhide sz7; have z8 := unhide sz8; have z9 := unhide sz9; have z10 := unhide sz10; have z11 := unhide sz11; have z12 := unhide sz12; have z13 := unhide sz13; have z14 := unhide sz14; omega))
  have sz15 := hide hg.size
  clear A
  have A := A_
  clear A_
  clear W
  have W := W_
  clear W_
  clear G
  have G := G_
  clear G_
  clear OW
  have OW := OW_
  clear OW_
  clear BB
  have BB := BB_
  clear BB_
  clear OG
  have OG := hide om
  clear om hg
  have j2 : ¬ (1 : Int) + (b2.mails.length : Int) * 4 + (b2.tombs.length : Int) * 2 < 0 := by omega
  have Gc0 := (unhide G).cell 0 rfl
  have Gc1 := (unhide G).cell 1 rfl
  have Gc2 := (unhide G).cell 2 rfl
  have Gc3 := (unhide G).cell 3 rfl
  have Gc4 := (unhide G).cell 4 rfl
  have Gc5 := (unhide G).cell 5 rfl
  have Gc6 := (unhide G).cell 6 rfl
  go_wp2_with fail
  clear Gc0 Gc1 Gc2 Gc3 Gc4 Gc5 Gc6
  refine (heldBox_any b2 _ _ _ 1 _ (unhide AL).1 (unhide AL).2 (by decide) (by decide) (unhide OG)).mono ?_
  rintro e w17 ⟨rfl, hb⟩
  have A_ := hide ((unhide A).ups hb)
  clear A
  have A := A_
  clear A_
  have W_ := hide ((unhide W).ups hb)
  clear W
  have W := W_
  clear W_
  have G_ := hide ((unhide G).ups hb)
  clear G
  have G := G_
  clear G_
  have OW_ := hide ((unhide OW).up hb)
  clear OW
  have OW := OW_
  clear OW_
  have OG_ := hide ((unhide OG).up hb)
  clear OG
  have OG := OG_
  clear OG_
  have sz16 := hide hb.size
  have BB_ := hide (below_y (unhide BB) hb)
  clear BB
  have BB := BB_
  clear BB_ hb
  have Ac0 := (unhide A).cell 0 rfl
  have Ac1 := (unhide A).cell 1 rfl
  have Ac2 := (unhide A).cell 2 rfl
  have Ac3 := (unhide A).cell 3 rfl
  have Ac4 := (unhide A).cell 4 rfl
  have Ac5 := (unhide A).cell 5 rfl
  have Ac6 := (unhide A).cell 6 rfl
  go_wp2_with fail
  clear Ac0 Ac1 Ac2 Ac3 Ac4 Ac5 Ac6
  refine (unhide TB _ (unhide BB)).mono ?_
  rintro e w19 ⟨mQ, tQ, rfl, oQ, hb⟩
  obtain ⟨amQ, cmQ, rfl⟩ := g_shape oQ.1
  obtain ⟨atQ, ctQ, rfl⟩ := g_shape oQ.2
  have NQ := hide (OwnBx.base oQ)
  have OQ := hide oQ
  clear oQ
  have A_ := hide ((unhide A).ups hb)
  clear A
  have A := A_
  clear A_
  have W_ := hide ((unhide W).ups hb)
  clear W
  have W := W_
  clear W_
  have G_ := hide ((unhide G).ups hb)
  clear G
  have G := G_
  clear G_
  have OW_ := hide ((unhide OW).up hb)
  clear OW
  have OW := OW_
  clear OW_
  have OG_ := hide ((unhide OG).up hb)
  clear OG
  have OG := OG_
  clear OG_
  have sz17 := hide hb.size
  have BB_ := hide (below_y (unhide BB) hb)
  clear BB
  have BB := BB_
  clear BB_ hb
  go_wp2_with fail
  refine (unhide CJ _ _ _ _ (unhide OQ) (unhide BB)).mono ?_
  rintro e w20 ⟨mH, tH, rfl, oH, hb⟩
  obtain ⟨amH, cmH, rfl⟩ := g_shape oH.1
  obtain ⟨atH, ctH, rfl⟩ := g_shape oH.2
  have NH := hide (OwnBx.base oH)
  have OH := hide oH
  clear oH
  have A_ := hide ((unhide A).ups hb)
  clear A
  have A := A_
  clear A_
  have W_ := hide ((unhide W).ups hb)
  clear W
  have W := W_
  clear W_
  have G_ := hide ((unhide G).ups hb)
  clear G
  have G := G_
  clear G_
  have OW_ := hide ((unhide OW).up hb)
  clear OW
  have OW := OW_
  clear OW_
  have OG_ := hide ((unhide OG).up hb)
  clear OG
  have OG := OG_
  clear OG_
  have OQ_ := hide ((unhide OQ).up hb)
  clear OQ
  have OQ := OQ_
  clear OQ_
  have sz18 := hide hb.size
  have BB_ := hide (below_y (unhide BB) hb)
  clear BB
  have BB := BB_
  clear BB_ hb
  clear OQ
  obtain ⟨w21, hH⟩ : ∃ X, X = w20.alloc (.cells ([.string b2.name, .int .i64 b2.valid, .int .i64 b2.next, .int .i64 b2.mod, .slice amH b2.mails.length cmH, .slice atH b2.tombs.length ctH, .int .i64 b2.hor] : List Value).toArray 31) := ⟨_, rfl⟩
  have Hx : HasObj w21 w20.heap.size 31 [.string b2.name, .int .i64 b2.valid, .int .i64 b2.next, .int .i64 b2.mod, .slice amH b2.mails.length cmH, .slice atH b2.tombs.length ctH, .int .i64 b2.hor] := by rw [hH]; exact HasObj.new _ _ _
  have hbn : Below w20.heap.size w20 w21 := by rw [hH]; exact (Below.refl _ _).alloc (Nat.le_refl _) _
  have EH := hH.symm
  clear hH
  have A_ := hide ((unhide A).ups hbn)
  clear A
  have A := A_
  clear A_
  have W_ := hide ((unhide W).ups hbn)
  clear W
  have W := W_
  clear W_
  have G_ := hide ((unhide G).ups hbn)
  clear G
  have G := G_
  clear G_
  have OW_ := hide ((unhide OW).up hbn)
  clear OW
  have OW := OW_
  clear OW_
  have OG_ := hide ((unhide OG).up hbn)
  clear OG
  have OG := OG_
  clear OG_
  have OH_ := hide ((unhide OH).up hbn)
  clear OH
  have OH := OH_
  clear OH_
  have sz19 := hide hbn.size
  have BB_ := hide (below_y (unhide BB) hbn)
  clear BB
  have BB := BB_
  clear BB_ hbn
  have H := hide Hx
  clear Hx
  have Hc0 := (unhide H).cell 0 rfl
  have Hc1 := (unhide H).cell 1 rfl
  have Hc2 := (unhide H).cell 2 rfl
  have Hc3 := (unhide H).cell 3 rfl
  have Hc4 := (unhide H).cell 4 rfl
  have Hc5 := (unhide H).cell 5 rfl
  have Hc6 := (unhide H).cell 6 rfl
  have Wc0 := (unhide W).cell 0 rfl
  have Wc1 := (unhide W).cell 1 rfl
  have Wc2 := (unhide W).cell 2 rfl
  have Wc3 := (unhide W).cell 3 rfl
  have Wc4 := (unhide W).cell 4 rfl
  have Wc5 := (unhide W).cell 5 rfl
  have Wc6 := (unhide W).cell 6 rfl
  go_wp2_with fail
  clear Hc0 Hc1 Hc2 Hc3 Hc4 Hc5 Hc6 Wc0 Wc1 Wc2 Wc3 Wc4 Wc5 Wc6
  refine (eqBox_same b2 _ _ _ _ _ _ _ (unhide AL).1 (unhide AL).2 (unhide OH) (unhide OW)).mono ?_
  rintro e w22 ⟨rfl, hb⟩
  have A_ := hide ((unhide A).ups hb)
  clear A
  have A := A_
  clear A_
  have W_ := hide ((unhide W).ups hb)
  clear W
  have W := W_
  clear W_
  have G_ := hide ((unhide G).ups hb)
  clear G
  have G := G_
  clear G_
  have H_ := hide ((unhide H).ups hb)
  clear H
  have H := H_
  clear H_
  have OW_ := hide ((unhide OW).up hb)
  clear OW
  have OW := OW_
  clear OW_
  have OG_ := hide ((unhide OG).up hb)
  clear OG
  have OG := OG_
  clear OG_
  have OH_ := hide ((unhide OH).up hb)
  clear OH
  have OH := OH_
  clear OH_
  have sz20 := hide hb.size
  have BB_ := hide (below_y (unhide BB) hb)
  clear BB
  have BB := BB_
  clear BB_ hb
  clear EH
  have Gc0 := (unhide G).cell 0 rfl
  have Gc1 := (unhide G).cell 1 rfl
  have Gc2 := (unhide G).cell 2 rfl
  have Gc3 := (unhide G).cell 3 rfl
  have Gc4 := (unhide G).cell 4 rfl
  have Gc5 := (unhide G).cell 5 rfl
  have Gc6 := (unhide G).cell 6 rfl
  go_wp2_with fail
  clear Gc0 Gc1 Gc2 Gc3 Gc4 Gc5 Gc6
  refine (heldBox_any b2 _ _ _ 1 _ (unhide AL).1 (unhide AL).2 (by decide) (by decide) (unhide OG)).mono ?_
  rintro e w23 ⟨rfl, hb⟩
  have A_ := hide ((unhide A).ups hb)
  clear A
  have A := A_
  clear A_
  have W_ := hide ((unhide W).ups hb)
  clear W
  have W := W_
  clear W_
  have G_ := hide ((unhide G).ups hb)
  clear G
  have G := G_
  clear G_
  have H_ := hide ((unhide H).ups hb)
  clear H
  have H := H_
  clear H_
  have OW_ := hide ((unhide OW).up hb)
  clear OW
  have OW := OW_
  clear OW_
  have OG_ := hide ((unhide OG).up hb)
  clear OG
  have OG := OG_
  clear OG_
  have OH_ := hide ((unhide OH).up hb)
  clear OH
  have OH := OH_
  clear OH_
  have sz21 := hide hb.size
  have BB_ := hide (below_y (unhide BB) hb)
  clear BB
  have BB := BB_
  clear BB_ hb
  go_wp2
  go_ret
  exact ⟨rfl, unhide BB⟩

set_option maxHeartbeats 16000000 in
set_option maxRecDepth 100000 in
theorem FnExactChanged_walk (b : Bx) (a1 a2 : Option Addr) (c1 c2 : Nat) (since : Int) (w : World) (h : ArgBx w.heap.size w a1 a2 b)
    (CI : ∀ (m t : Value) (B : Nat) (W : World), SmallBx 1048576 b → OwnBx B W m t b → Below w.heap.size w W → Calls Try.prog 9 #[boxV b m t, .int .i64 since] W fun e w' => ∃ v, e = .returned v ∧ OwnMl W.heap.size w' v (changedL b since) ∧ Below W.heap.size W w') :
    Calls Try.prog 3 #[.agg #[.string b.name, .int .i64 b.valid, .int .i64 b.next, .int .i64 b.mod, .slice a1 b.mails.length c1, .slice a2 b.tombs.length c2, .int .i64 b.hor], .int .i64 since] w fun e w' => e = .returned (.bool true) ∧ Below w.heap.size w w' := by
  have BB := hide (Below.refl w.heap.size w)
  have HA := hide h
  have CH := hide CI
  clear h CI
  obtain ⟨w1, hA⟩ : ∃ X, X = w.alloc (.cells ([.string b.name, .int .i64 b.valid, .int .i64 b.next, .int .i64 b.mod, .slice a1 b.mails.length c1, .slice a2 b.tombs.length c2, .int .i64 b.hor] : List Value).toArray 25) := ⟨_, rfl⟩
  have Ax : HasObj w1 w.heap.size 25 [.string b.name, .int .i64 b.valid, .int .i64 b.next, .int .i64 b.mod, .slice a1 b.mails.length c1, .slice a2 b.tombs.length c2, .int .i64 b.hor] := by rw [hA]; exact HasObj.new _ _ _
  have hbn : Below w.heap.size w w1 := by rw [hA]; exact (Below.refl _ _).alloc (Nat.le_refl _) _
  have EA := hA.symm
  clear hA
  have sz1 := hide hbn.size
  have BB_ := hide (below_y (unhide BB) hbn)
  clear BB
  have BB := BB_
  clear BB_ hbn
  have A := hide Ax
  clear Ax
  have SZ := hide (szBox_any b a1 a2 c1 c2 w1 ((unhide HA).up (unhide BB)))
  have Ac0 := (unhide A).cell 0 rfl
  have Ac1 := (unhide A).cell 1 rfl
  have Ac2 := (unhide A).cell 2 rfl
  have Ac3 := (unhide A).cell 3 rfl
  have Ac4 := (unhide A).cell 4 rfl
  have Ac5 := (unhide A).cell 5 rfl
  have Ac6 := (unhide A).cell 6 rfl
  go_enter Try.func3, Try.ntmps3
  go_wp2_with fail
  clear Ac0 Ac1 Ac2 Ac3 Ac4 Ac5 Ac6
  clear EA
  refine (unhide SZ).mono ?_
  rintro e wz ⟨⟨q, rfl, hq⟩, hb⟩
  have A_ := hide ((unhide A).ups hb)
  clear A
  have A := A_
  clear A_
  have sz2 := hide hb.size
  have BB_ := hide (below_y (unhide BB) hb)
  clear BB
  have BB := BB_
  clear BB_ hb
  clear SZ
  rcases hq with rfl | ⟨q, rfl, hq, hsm⟩
  · go_wp2
    go_ret
    exact ⟨rfl, unhide BB⟩
  have i1 : ¬ (q : Int) < 0 := by omega
  have SM := hide hsm
  clear hsm
  have TB := hide (fun (W : World) (hb : Below w.heap.size w W) => toBox_any b a1 a2 c1 c2 W (unhide SM) ((unhide HA).up hb))
  have AL := hide (changedL_len b since (unhide SM).2.1.1)
  have SA := hide (fun (m t : Value) (B : Nat) (W : World) (h : OwnBx B W m t b) => spec_Changed_any b m t B since W (unhide SM).fit.mails h)
  have CJ := hide (fun (m t : Value) (B : Nat) (W : World) (h : OwnBx B W m t b) (hb : Below w.heap.size w W) => unhide CH m t B W (unhide SM) h hb)
  clear CH
  generalize changedL b since = l2 at *
  have Ac0 := (unhide A).cell 0 rfl
  have Ac1 := (unhide A).cell 1 rfl
  have Ac2 := (unhide A).cell 2 rfl
  have Ac3 := (unhide A).cell 3 rfl
  have Ac4 := (unhide A).cell 4 rfl
  have Ac5 := (unhide A).cell 5 rfl
  have Ac6 := (unhide A).cell 6 rfl
  go_wp2_with fail
  clear Ac0 Ac1 Ac2 Ac3 Ac4 Ac5 Ac6
  refine (unhide TB _ (unhide BB)).mono ?_
  rintro e w3 ⟨mP, tP, rfl, oP, hb⟩
  obtain ⟨amP, cmP, rfl⟩ := g_shape oP.1
  obtain ⟨atP, ctP, rfl⟩ := g_shape oP.2
  have NP := hide (OwnBx.base oP)
  have OP := hide oP
  clear oP
  have A_ := hide ((unhide A).ups hb)
  clear A
  have A := A_
  clear A_
  have sz3 := hide hb.size
  have BB_ := hide (below_y (unhide BB) hb)
  clear BB
  have BB := BB_
  clear BB_ hb
  go_wp2_with fail
  refine (unhide SA _ _ _ _ (unhide OP)).mono ?_
  rintro e w4 ⟨vW, rfl, oW, hb⟩
  obtain ⟨aW, cW, rfl⟩ := g_shape oW
  have NW := hide (fun g (h : Value.ownBlock _ = some g) => World.ownsRow.lt oW g h)
  have RW := hide oW
  clear oW
  have A_ := hide ((unhide A).ups hb)
  clear A
  have A := A_
  clear A_
  have OP_ := hide ((unhide OP).up hb)
  clear OP
  have OP := OP_
  clear OP_
  have sz4 := hide hb.size
  have BB_ := hide (below_y (unhide BB) hb)
  clear BB
  have BB := BB_
  clear BB_ hb
  clear OP
  have Ac0 := (unhide A).cell 0 rfl
  have Ac1 := (unhide A).cell 1 rfl
  have Ac2 := (unhide A).cell 2 rfl
  have Ac3 := (unhide A).cell 3 rfl
  have Ac4 := (unhide A).cell 4 rfl
  have Ac5 := (unhide A).cell 5 rfl
  have Ac6 := (unhide A).cell 6 rfl
  go_wp2_with fail
  clear Ac0 Ac1 Ac2 Ac3 Ac4 Ac5 Ac6
  refine (unhide TB _ (unhide BB)).mono ?_
  rintro e w6 ⟨mX, tX, rfl, oX, hb⟩
  obtain ⟨amX, cmX, rfl⟩ := g_shape oX.1
  obtain ⟨atX, ctX, rfl⟩ := g_shape oX.2
  have NX := hide (OwnBx.base oX)
  have OX := hide oX
  clear oX
  have RW_ := hide ((unhide RW).up hb)
  clear RW
  have RW := RW_
  clear RW_
  have A_ := hide ((unhide A).ups hb)
  clear A
  have A := A_
  clear A_
  have sz5 := hide hb.size
  have BB_ := hide (below_y (unhide BB) hb)
  clear BB
  have BB := BB_
  clear BB_ hb
  obtain ⟨w7, hX⟩ : ∃ X, X = w6.alloc (.cells ([.string b.name, .int .i64 b.valid, .int .i64 b.next, .int .i64 b.mod, .slice amX b.mails.length cmX, .slice atX b.tombs.length ctX, .int .i64 b.hor] : List Value).toArray 31) := ⟨_, rfl⟩
  have Xx : HasObj w7 w6.heap.size 31 [.string b.name, .int .i64 b.valid, .int .i64 b.next, .int .i64 b.mod, .slice amX b.mails.length cmX, .slice atX b.tombs.length ctX, .int .i64 b.hor] := by rw [hX]; exact HasObj.new _ _ _
  have hbn : Below w6.heap.size w6 w7 := by rw [hX]; exact (Below.refl _ _).alloc (Nat.le_refl _) _
  have EX := hX.symm
  clear hX
  have RW_ := hide ((unhide RW).up hbn)
  clear RW
  have RW := RW_
  clear RW_
  have A_ := hide ((unhide A).ups hbn)
  clear A
  have A := A_
  clear A_
  have OX_ := hide ((unhide OX).up hbn)
  clear OX
  have OX := OX_
  clear OX_
  have sz6 := hide hbn.size
  have BB_ := hide (below_y (unhide BB) hbn)
  clear BB
  have BB := BB_
  clear BB_ hbn
  have X := hide Xx
  clear Xx
  have Xc0 := (unhide X).cell 0 rfl
  have Xc1 := (unhide X).cell 1 rfl
  have Xc2 := (unhide X).cell 2 rfl
  have Xc3 := (unhide X).cell 3 rfl
  have Xc4 := (unhide X).cell 4 rfl
  have Xc5 := (unhide X).cell 5 rfl
  have Xc6 := (unhide X).cell 6 rfl
  go_wp2_with fail
  clear Xc0 Xc1 Xc2 Xc3 Xc4 Xc5 Xc6
  refine (unhide CJ _ _ _ _ (unhide OX) (unhide BB)).mono ?_
  rintro e w8 ⟨vG, rfl, oG, hb⟩
  obtain ⟨aG, cG, rfl⟩ := g_shape oG
  have NG := hide (fun g (h : Value.ownBlock _ = some g) => World.ownsRow.lt oG g h)
  have RG := hide oG
  clear oG
  have RW_ := hide ((unhide RW).up hb)
  clear RW
  have RW := RW_
  clear RW_
  have A_ := hide ((unhide A).ups hb)
  clear A
  have A := A_
  clear A_
  have X_ := hide ((unhide X).ups hb)
  clear X
  have X := X_
  clear X_
  have OX_ := hide ((unhide OX).up hb)
  clear OX
  have OX := OX_
  clear OX_
  have sz7 := hide hb.size
  have BB_ := hide (below_y (unhide BB) hb)
  clear BB
  have BB := BB_
  clear BB_ hb
  clear EX
  go_wp2_with fail
  refine (eqMailS_same l2 _ _ _ _ _ (unhide AL) (unhide RG) (unhide RW)).mono ?_
  rintro e w9 ⟨rfl, hb⟩
  have RW_ := hide ((unhide RW).up hb)
  clear RW
  have RW := RW_
  clear RW_
  have RG_ := hide ((unhide RG).up hb)
  clear RG
  have RG := RG_
  clear RG_
  have A_ := hide ((unhide A).ups hb)
  clear A
  have A := A_
  clear A_
  have X_ := hide ((unhide X).ups hb)
  clear X
  have X := X_
  clear X_
  have OX_ := hide ((unhide OX).up hb)
  clear OX
  have OX := OX_
  clear OX_
  have sz8 := hide hb.size
  have BB_ := hide (below_y (unhide BB) hb)
  clear BB
  have BB := BB_
  clear BB_ hb
  have Xc0 := (unhide X).cell 0 rfl
  have Xc1 := (unhide X).cell 1 rfl
  have Xc2 := (unhide X).cell 2 rfl
  have Xc3 := (unhide X).cell 3 rfl
  have Xc4 := (unhide X).cell 4 rfl
  have Xc5 := (unhide X).cell 5 rfl
  have Xc6 := (unhide X).cell 6 rfl
  have Ac0 := (unhide A).cell 0 rfl
  have Ac1 := (unhide A).cell 1 rfl
  have Ac2 := (unhide A).cell 2 rfl
  have Ac3 := (unhide A).cell 3 rfl
  have Ac4 := (unhide A).cell 4 rfl
  have Ac5 := (unhide A).cell 5 rfl
  have Ac6 := (unhide A).cell 6 rfl
  go_wp2
  refine wp_region_held_drew (S := fun w' => w'.cell? ⟨w6.heap.size, 0, none⟩ = some (.string b.name) ∧ w'.cell? ⟨w6.heap.size, 1, none⟩ = some (.int .i64 b.valid) ∧ w'.cell? ⟨w6.heap.size, 2, none⟩ = some (.int .i64 b.next) ∧ w'.cell? ⟨w6.heap.size, 3, none⟩ = some (.int .i64 b.mod) ∧ w'.cell? ⟨w6.heap.size, 4, none⟩ = some (.slice amX b.mails.length cmX) ∧ w'.cell? ⟨w6.heap.size, 5, none⟩ = some (.slice atX b.tombs.length ctX) ∧ w'.cell? ⟨w6.heap.size, 6, none⟩ = some (.int .i64 b.hor) ∧ w'.cell? ⟨w.heap.size, 0, none⟩ = some (.string b.name) ∧ w'.cell? ⟨w.heap.size, 1, none⟩ = some (.int .i64 b.valid) ∧ w'.cell? ⟨w.heap.size, 2, none⟩ = some (.int .i64 b.next) ∧ w'.cell? ⟨w.heap.size, 3, none⟩ = some (.int .i64 b.mod) ∧ w'.cell? ⟨w.heap.size, 4, none⟩ = some (.slice a1 b.mails.length c1) ∧ w'.cell? ⟨w.heap.size, 5, none⟩ = some (.slice a2 b.tombs.length c2) ∧ w'.cell? ⟨w.heap.size, 6, none⟩ = some (.int .i64 b.hor)) (by kernel_rfl) (⟨Xc0, Xc1, Xc2, Xc3, Xc4, Xc5, Xc6, Ac0, Ac1, Ac2, Ac3, Ac4, Ac5, Ac6⟩) (fun hHeld => ?_)
  refine takeVal 0 (some 31) ?_ rfl (by kernel_rfl) (by kernel_rfl) (by kernel_rfl) rfl (fun _ _ _ h => h) (by rfl) (by assumption) ?_ ?_
  rotate_left
  · (intro w hSw; (try dsimp only at hSw); go_simp <;> with_reducible rfl)
  simp only [Act.put, List.setIfInBounds_toArray, List.set_cons_zero, List.set_cons_succ]
  refine takeVal 1 (some 32) ?_ rfl (by kernel_rfl) (by kernel_rfl) (by kernel_rfl) rfl (fun _ _ _ h => h) (by rfl) (by assumption) ?_ ?_
  rotate_left
  · (intro w hSw; (try dsimp only at hSw); go_simp <;> with_reducible rfl)
  simp only [Act.put, List.setIfInBounds_toArray, List.set_cons_zero, List.set_cons_succ]
  clear Xc0 Xc1 Xc2 Xc3 Xc4 Xc5 Xc6 Ac0 Ac1 Ac2 Ac3 Ac4 Ac5 Ac6
  have RW_ := hide (unhide RW).drew
  clear RW
  have RW := RW_
  clear RW_
  have RG_ := hide (unhide RG).drew
  clear RG
  have RG := RG_
  clear RG_
  have A_ := hide (unhide A).drew
  clear A
  have A := A_
  clear A_
  have X_ := hide (unhide X).drew
  clear X
  have X := X_
  clear X_
  have OX_ := hide (unhide OX).drew
  clear OX
  have OX := OX_
  clear OX_
  have BB_ := hide (unhide BB).drew
  clear BB
  have BB := BB_
  clear BB_
  refine wpAnyH_ready (rs := [2]) (by kernel_rfl) (by simp) ?_
  refine AllReadyH.cons rfl (fun K hK => ?_) AllReadyH.nil
  go_simp
  refine (unhide TB _ (unhide BB)).mono ?_
  rintro e w10 ⟨mC11, tC11, rfl, oC11, hb1⟩
  go_wp2_with fail
  refine hK.out _ _ (⟨((unhide X).ups hb1).cell 0 rfl, ((unhide X).ups hb1).cell 1 rfl, ((unhide X).ups hb1).cell 2 rfl, ((unhide X).ups hb1).cell 3 rfl, ((unhide X).ups hb1).cell 4 rfl, ((unhide X).ups hb1).cell 5 rfl, ((unhide X).ups hb1).cell 6 rfl, ((unhide A).ups hb1).cell 0 rfl, ((unhide A).ups hb1).cell 1 rfl, ((unhide A).ups hb1).cell 2 rfl, ((unhide A).ups hb1).cell 3 rfl, ((unhide A).ups hb1).cell 4 rfl, ((unhide A).ups hb1).cell 5 rfl, ((unhide A).ups hb1).cell 6 rfl⟩) (fun hHeld2 => ?_)
  clear hK K hHeld
  have hHeld := hHeld2; clear hHeld2
  try simp only [Act.put, List.setIfInBounds_toArray, List.set_cons_zero, List.set_cons_succ]
  obtain ⟨amC11, cmC11, rfl⟩ := g_shape oC11.1
  obtain ⟨atC11, ctC11, rfl⟩ := g_shape oC11.2
  have OC11 := hide oC11
  clear oC11
  have RW_ := hide ((unhide RW).up hb1)
  clear RW
  have RW := RW_
  clear RW_
  have RG_ := hide ((unhide RG).up hb1)
  clear RG
  have RG := RG_
  clear RG_
  have A_ := hide ((unhide A).ups hb1)
  clear A
  have A := A_
  clear A_
  have X_ := hide ((unhide X).ups hb1)
  clear X
  have X := X_
  clear X_
  have OX_ := hide ((unhide OX).up hb1)
  clear OX
  have OX := OX_
  clear OX_
  have sz9 := hide hb1.size
  have BB_ := hide (below_y (unhide BB) hb1)
  clear BB
  have BB := BB_
  clear BB_ hb1
  refine wpAnyH_ready (rs := [3]) (by kernel_rfl) (by simp) ?_
  refine AllReadyH.cons rfl (fun K hK => ?_) AllReadyH.nil
  go_simp
  refine (eqBox_same b _ _ _ _ _ _ _ (unhide SM).2.1.1 (unhide SM).2.2 (unhide OX) (unhide OC11)).mono ?_
  rintro e w11 ⟨rfl, hb2⟩
  go_wp2_with fail
  refine hK.out _ _ (⟨((unhide X).ups hb2).cell 0 rfl, ((unhide X).ups hb2).cell 1 rfl, ((unhide X).ups hb2).cell 2 rfl, ((unhide X).ups hb2).cell 3 rfl, ((unhide X).ups hb2).cell 4 rfl, ((unhide X).ups hb2).cell 5 rfl, ((unhide X).ups hb2).cell 6 rfl, ((unhide A).ups hb2).cell 0 rfl, ((unhide A).ups hb2).cell 1 rfl, ((unhide A).ups hb2).cell 2 rfl, ((unhide A).ups hb2).cell 3 rfl, ((unhide A).ups hb2).cell 4 rfl, ((unhide A).ups hb2).cell 5 rfl, ((unhide A).ups hb2).cell 6 rfl⟩) (fun hHeld2 => ?_)
  clear hK K hHeld
  have hHeld := hHeld2; clear hHeld2
  try simp only [Act.put, List.setIfInBounds_toArray, List.set_cons_zero, List.set_cons_succ]
  have RW_ := hide ((unhide RW).up hb2)
  clear RW
  have RW := RW_
  clear RW_
  have RG_ := hide ((unhide RG).up hb2)
  clear RG
  have RG := RG_
  clear RG_
  have A_ := hide ((unhide A).ups hb2)
  clear A
  have A := A_
  clear A_
  have X_ := hide ((unhide X).ups hb2)
  clear X
  have X := X_
  clear X_
  have OX_ := hide ((unhide OX).up hb2)
  clear OX
  have OX := OX_
  clear OX_
  have sz10 := hide hb2.size
  have BB_ := hide (below_y (unhide BB) hb2)
  clear BB
  have BB := BB_
  clear BB_ hb2
  refine takeVal 4 (some 35) ?_ rfl (by kernel_rfl) (by kernel_rfl) (by kernel_rfl) rfl (fun _ _ _ h => h) (by rfl) (by assumption) ?_ ?_
  rotate_left
  · (intro w hSw; (try dsimp only at hSw); go_simp <;> with_reducible rfl)
  simp only [Act.put, List.setIfInBounds_toArray, List.set_cons_zero, List.set_cons_succ]
  refine wpAnyH_done (by kernel_rfl) ?_ _
  have Xc0 := (unhide X).cell 0 rfl
  have Xc1 := (unhide X).cell 1 rfl
  have Xc2 := (unhide X).cell 2 rfl
  have Xc3 := (unhide X).cell 3 rfl
  have Xc4 := (unhide X).cell 4 rfl
  have Xc5 := (unhide X).cell 5 rfl
  have Xc6 := (unhide X).cell 6 rfl
  go_wp2_with fail
  clear Xc0 Xc1 Xc2 Xc3 Xc4 Xc5 Xc6
  refine (markBox_any b _ _ _ 1 _ (unhide SM).2.1.1 (unhide SM).2.2 (by decide) (by decide) (unhide OX)).mono ?_
  rintro e w12 ⟨rfl, om, hg⟩
  have A_ := hide (hg.obj (unhide A) (fun hh => by rcases hh with hh | hh; exact (unhide A).not_row (by decide) (unhide OX).1 hh; exact (unhide A).not_row (by decide) (unhide OX).2 hh))
  have X_ := hide (hg.obj (unhide X) (fun hh => by rcases hh with hh | hh; exact (unhide X).not_row (by decide) (unhide OX).1 hh; exact (unhide X).not_row (by decide) (unhide OX).2 hh))
  have RW_ : Hid (OwnMl _ w12 _ _) := hg.row (unhide RW) (fun g hg1 hg2 => by have q1 := unhide NW g hg1; have q2 := unhide NX g hg2; have z1 := unhide sz1; have z2 := unhide sz2; have z3 := unhide sz3; have z4 := unhide sz4; have z5 := unhide sz5; have z6 := unhide sz6; have z7 := unhide sz7; have z8 := unhide sz8; have z9 := unhide sz9; have z10 := unhide sz10; omega)
  have RG_ : Hid (OwnMl _ w12 _ _) := hg.row (unhide RG) (fun g hg1 hg2 => by have q1 := unhide NG g hg1; have q2 := unhide NX g hg2; have z1 := unhide sz1; have z2 := unhide sz2; have z3 := unhide sz3; have z4 := unhide sz4; have z5 := unhide sz5; have z6 := unhide sz6; have z7 := unhide sz7; have z8 := unhide sz8; have z9 := unhide sz9; have z10 := unhide sz10; omega)
  have BB_ : Hid (Below w.heap.size w w12) := (unhide BB).trans (hg.toBelow (unhide BB).size (fun g hh => by have q2 := unhide NX g hh; have z1 := unhide sz1; have z2 := unhide sz2; have z3 := unhide sz3; have z4 := unhide sz4; have z5 := unhide sz5; have z6 := unhide sz6; have z7 := unhide sz7; have z8 := unhide sz8; have z9 := unhide sz9; have z10 := unhide sz10; omega))
  have sz11 := hide hg.size
  clear A
  have A := A_
  clear A_
  clear X
  have X := X_
  clear X_
  clear RW
  have RW := RW_
  clear RW_
  clear RG
  have RG := RG_
  clear RG_
  clear BB
  have BB := BB_
  clear BB_
  clear OX
  have OX := hide om
  clear om hg
  clear OX X
  have j1 : ¬ (1 : Int) + (b.mails.length : Int) * 4 + (b.tombs.length : Int) * 2 < 0 := by omega
  go_wp2_with fail
  refine (eqMailS_same l2 _ _ _ _ _ (unhide AL) (unhide RG) (unhide RW)).mono ?_
  rintro e w13 ⟨rfl, hb⟩
  have RW_ := hide ((unhide RW).up hb)
  clear RW
  have RW := RW_
  clear RW_
  have RG_ := hide ((unhide RG).up hb)
  clear RG
  have RG := RG_
  clear RG_
  have A_ := hide ((unhide A).ups hb)
  clear A
  have A := A_
  clear A_
  have sz12 := hide hb.size
  have BB_ := hide (below_y (unhide BB) hb)
  clear BB
  have BB := BB_
  clear BB_ hb
  go_wp2_with fail
  refine (markMailS_any l2 _ _ 1 _ (unhide AL) (by decide) (by decide) (unhide RG)).mono ?_
  rintro e w14 ⟨rfl, om, hg0⟩
  have hg := GrownBut.of hg0
  have A_ := hide (hg.obj (unhide A) (fun hh => (unhide A).not_row (by decide) (unhide RG) hh))
  have RW_ : Hid (OwnMl _ w14 _ _) := hg.row (unhide RW) (fun g hg1 hg2 => by have q1 := unhide NW g hg1; have q2 := unhide NG g hg2; have z1 := unhide sz1; have z2 := unhide sz2; have z3 := unhide sz3; have z4 := unhide sz4; have z5 := unhide sz5; have z6 := unhide sz6; have z7 := unhide sz7; have z8 := unhide sz8; have z9 := unhide sz9; have z10 := unhide sz10; have z11 := unhide sz11; have z12 := unhide sz12; omega)
  have BB_ : Hid (Below w.heap.size w w14) := (unhide BB).trans (hg.toBelow (unhide BB).size (fun g hh => by have q2 := unhide NG g hh; have z1 := unhide sz1; have z2 := unhide sz2; have z3 := unhide sz3; have z4 := unhide sz4; have z5 := unhide sz5; have z6 := unhide sz6; have z7 := unhide sz7; have z8 := unhide sz8; have z9 := unhide sz9; have z10 := unhide sz10; have z11 := unhide sz11; have z12 := unhide sz12; omega))
  have sz13 := hide hg.size
  clear A
  have A := A_
  clear A_
  clear RW
  have RW := RW_
  clear RW_
  clear BB
  have BB := BB_
  clear BB_
  clear RG
  have RG := hide om
  clear om hg hg0
  have j2 : ¬ (1 : Int) + (l2.length : Int) * 4 < 0 := by omega
  go_wp2_with fail
  refine (heldMailS_any l2.length _ _ 1 _ (unhide AL) (by decide) (by decide) (unhide RG)).mono ?_
  rintro e w15 ⟨rfl, hb⟩
  have RW_ := hide ((unhide RW).up hb)
  clear RW
  have RW := RW_
  clear RW_
  have RG_ := hide ((unhide RG).up hb)
  clear RG
  have RG := RG_
  clear RG_
  have A_ := hide ((unhide A).ups hb)
  clear A
  have A := A_
  clear A_
  have sz14 := hide hb.size
  have BB_ := hide (below_y (unhide BB) hb)
  clear BB
  have BB := BB_
  clear BB_ hb
  have Ac0 := (unhide A).cell 0 rfl
  have Ac1 := (unhide A).cell 1 rfl
  have Ac2 := (unhide A).cell 2 rfl
  have Ac3 := (unhide A).cell 3 rfl
  have Ac4 := (unhide A).cell 4 rfl
  have Ac5 := (unhide A).cell 5 rfl
  have Ac6 := (unhide A).cell 6 rfl
  go_wp2_with fail
  clear Ac0 Ac1 Ac2 Ac3 Ac4 Ac5 Ac6
  refine (unhide TB _ (unhide BB)).mono ?_
  rintro e w17 ⟨mQ, tQ, rfl, oQ, hb⟩
  obtain ⟨amQ, cmQ, rfl⟩ := g_shape oQ.1
  obtain ⟨atQ, ctQ, rfl⟩ := g_shape oQ.2
  have NQ := hide (OwnBx.base oQ)
  have OQ := hide oQ
  clear oQ
  have RW_ := hide ((unhide RW).up hb)
  clear RW
  have RW := RW_
  clear RW_
  have RG_ := hide ((unhide RG).up hb)
  clear RG
  have RG := RG_
  clear RG_
  have A_ := hide ((unhide A).ups hb)
  clear A
  have A := A_
  clear A_
  have sz15 := hide hb.size
  have BB_ := hide (below_y (unhide BB) hb)
  clear BB
  have BB := BB_
  clear BB_ hb
  go_wp2_with fail
  refine (unhide CJ _ _ _ _ (unhide OQ) (unhide BB)).mono ?_
  rintro e w18 ⟨vH, rfl, oH, hb⟩
  obtain ⟨aH, cH, rfl⟩ := g_shape oH
  have NH := hide (fun g (h : Value.ownBlock _ = some g) => World.ownsRow.lt oH g h)
  have RH := hide oH
  clear oH
  have RW_ := hide ((unhide RW).up hb)
  clear RW
  have RW := RW_
  clear RW_
  have RG_ := hide ((unhide RG).up hb)
  clear RG
  have RG := RG_
  clear RG_
  have A_ := hide ((unhide A).ups hb)
  clear A
  have A := A_
  clear A_
  have OQ_ := hide ((unhide OQ).up hb)
  clear OQ
  have OQ := OQ_
  clear OQ_
  have sz16 := hide hb.size
  have BB_ := hide (below_y (unhide BB) hb)
  clear BB
  have BB := BB_
  clear BB_ hb
  go_wp2_with fail
  refine (eqMailS_same l2 _ _ _ _ _ (unhide AL) (unhide RH) (unhide RW)).mono ?_
  rintro e w19 ⟨rfl, hb⟩
  have RW_ := hide ((unhide RW).up hb)
  clear RW
  have RW := RW_
  clear RW_
  have RG_ := hide ((unhide RG).up hb)
  clear RG
  have RG := RG_
  clear RG_
  have RH_ := hide ((unhide RH).up hb)
  clear RH
  have RH := RH_
  clear RH_
  have A_ := hide ((unhide A).ups hb)
  clear A
  have A := A_
  clear A_
  have OQ_ := hide ((unhide OQ).up hb)
  clear OQ
  have OQ := OQ_
  clear OQ_
  have sz17 := hide hb.size
  have BB_ := hide (below_y (unhide BB) hb)
  clear BB
  have BB := BB_
  clear BB_ hb
  go_wp2_with fail
  refine (heldMailS_any l2.length _ _ 1 _ (unhide AL) (by decide) (by decide) (unhide RG)).mono ?_
  rintro e w20 ⟨rfl, hb⟩
  have RW_ := hide ((unhide RW).up hb)
  clear RW
  have RW := RW_
  clear RW_
  have RG_ := hide ((unhide RG).up hb)
  clear RG
  have RG := RG_
  clear RG_
  have RH_ := hide ((unhide RH).up hb)
  clear RH
  have RH := RH_
  clear RH_
  have A_ := hide ((unhide A).ups hb)
  clear A
  have A := A_
  clear A_
  have OQ_ := hide ((unhide OQ).up hb)
  clear OQ
  have OQ := OQ_
  clear OQ_
  have sz18 := hide hb.size
  have BB_ := hide (below_y (unhide BB) hb)
  clear BB
  have BB := BB_
  clear BB_ hb
  go_wp2
  go_ret
  exact ⟨rfl, unhide BB⟩

set_option maxHeartbeats 16000000 in
set_option maxRecDepth 100000 in
theorem FnExactVanished_walk (b : Bx) (a1 a2 : Option Addr) (c1 c2 : Nat) (since : Int) (w : World) (h : ArgBx w.heap.size w a1 a2 b)
    (CI : ∀ (m t : Value) (B : Nat) (W : World), SmallBx 1048576 b → OwnBx B W m t b → Below w.heap.size w W → Calls Try.prog 16 #[boxV b m t, .int .i64 since] W fun e w' => ∃ v, e = .returned (.tuple #[v, .bool (vanV b since).2]) ∧ OwnR W.heap.size w' v (vanV b since).1 ∧ Below W.heap.size W w') :
    Calls Try.prog 4 #[.agg #[.string b.name, .int .i64 b.valid, .int .i64 b.next, .int .i64 b.mod, .slice a1 b.mails.length c1, .slice a2 b.tombs.length c2, .int .i64 b.hor], .int .i64 since] w fun e w' => e = .returned (.bool true) ∧ Below w.heap.size w w' := by
  have BB := hide (Below.refl w.heap.size w)
  have HA := hide h
  have CH := hide CI
  clear h CI
  obtain ⟨w1, hA⟩ : ∃ X, X = w.alloc (.cells ([.string b.name, .int .i64 b.valid, .int .i64 b.next, .int .i64 b.mod, .slice a1 b.mails.length c1, .slice a2 b.tombs.length c2, .int .i64 b.hor] : List Value).toArray 25) := ⟨_, rfl⟩
  have Ax : HasObj w1 w.heap.size 25 [.string b.name, .int .i64 b.valid, .int .i64 b.next, .int .i64 b.mod, .slice a1 b.mails.length c1, .slice a2 b.tombs.length c2, .int .i64 b.hor] := by rw [hA]; exact HasObj.new _ _ _
  have hbn : Below w.heap.size w w1 := by rw [hA]; exact (Below.refl _ _).alloc (Nat.le_refl _) _
  have EA := hA.symm
  clear hA
  have sz1 := hide hbn.size
  have BB_ := hide (below_y (unhide BB) hbn)
  clear BB
  have BB := BB_
  clear BB_ hbn
  have A := hide Ax
  clear Ax
  have SZ := hide (szBox_any b a1 a2 c1 c2 w1 ((unhide HA).up (unhide BB)))
  have Ac0 := (unhide A).cell 0 rfl
  have Ac1 := (unhide A).cell 1 rfl
  have Ac2 := (unhide A).cell 2 rfl
  have Ac3 := (unhide A).cell 3 rfl
  have Ac4 := (unhide A).cell 4 rfl
  have Ac5 := (unhide A).cell 5 rfl
  have Ac6 := (unhide A).cell 6 rfl
  go_enter Try.func4, Try.ntmps4
  go_wp2_with fail
  clear Ac0 Ac1 Ac2 Ac3 Ac4 Ac5 Ac6
  clear EA
  refine (unhide SZ).mono ?_
  rintro e wz ⟨⟨q, rfl, hq⟩, hb⟩
  have A_ := hide ((unhide A).ups hb)
  clear A
  have A := A_
  clear A_
  have sz2 := hide hb.size
  have BB_ := hide (below_y (unhide BB) hb)
  clear BB
  have BB := BB_
  clear BB_ hb
  clear SZ
  rcases hq with rfl | ⟨q, rfl, hq, hsm⟩
  · go_wp2
    go_ret
    exact ⟨rfl, unhide BB⟩
  have i1 : ¬ (q : Int) < 0 := by omega
  have SM := hide hsm
  clear hsm
  have TB := hide (fun (W : World) (hb : Below w.heap.size w W) => toBox_any b a1 a2 c1 c2 W (unhide SM) ((unhide HA).up hb))
  have AL := hide (vanV_len b since)
  have SA := hide (fun (m t : Value) (B : Nat) (W : World) (h : OwnBx B W m t b) => spec_Vanished_any b m t B since W (unhide SM).fit h)
  have CJ := hide (fun (m t : Value) (B : Nat) (W : World) (h : OwnBx B W m t b) (hb : Below w.heap.size w W) => unhide CH m t B W (unhide SM) h hb)
  clear CH
  generalize vanV b since = r at *
  obtain ⟨l2, u⟩ := r
  simp only at SA CJ AL
  have rq : ∀ x : Bool, (!x == x) = false := by decide
  have Ac0 := (unhide A).cell 0 rfl
  have Ac1 := (unhide A).cell 1 rfl
  have Ac2 := (unhide A).cell 2 rfl
  have Ac3 := (unhide A).cell 3 rfl
  have Ac4 := (unhide A).cell 4 rfl
  have Ac5 := (unhide A).cell 5 rfl
  have Ac6 := (unhide A).cell 6 rfl
  go_wp2_with fail
  clear Ac0 Ac1 Ac2 Ac3 Ac4 Ac5 Ac6
  refine (unhide TB _ (unhide BB)).mono ?_
  rintro e w3 ⟨mP, tP, rfl, oP, hb⟩
  obtain ⟨amP, cmP, rfl⟩ := g_shape oP.1
  obtain ⟨atP, ctP, rfl⟩ := g_shape oP.2
  have NP := hide (OwnBx.base oP)
  have OP := hide oP
  clear oP
  have A_ := hide ((unhide A).ups hb)
  clear A
  have A := A_
  clear A_
  have sz3 := hide hb.size
  have BB_ := hide (below_y (unhide BB) hb)
  clear BB
  have BB := BB_
  clear BB_ hb
  go_wp2_with fail
  refine (unhide SA _ _ _ _ (unhide OP)).mono ?_
  rintro e w4 ⟨vW, rfl, oW, hb⟩
  obtain ⟨aW, cW, rfl⟩ := g_shape oW
  have NW := hide (fun g (h : Value.ownBlock _ = some g) => World.ownsRow.lt oW g h)
  have RW := hide oW
  clear oW
  have A_ := hide ((unhide A).ups hb)
  clear A
  have A := A_
  clear A_
  have OP_ := hide ((unhide OP).up hb)
  clear OP
  have OP := OP_
  clear OP_
  have sz4 := hide hb.size
  have BB_ := hide (below_y (unhide BB) hb)
  clear BB
  have BB := BB_
  clear BB_ hb
  clear OP
  have Ac0 := (unhide A).cell 0 rfl
  have Ac1 := (unhide A).cell 1 rfl
  have Ac2 := (unhide A).cell 2 rfl
  have Ac3 := (unhide A).cell 3 rfl
  have Ac4 := (unhide A).cell 4 rfl
  have Ac5 := (unhide A).cell 5 rfl
  have Ac6 := (unhide A).cell 6 rfl
  go_wp2_with fail
  clear Ac0 Ac1 Ac2 Ac3 Ac4 Ac5 Ac6
  refine (unhide TB _ (unhide BB)).mono ?_
  rintro e w6 ⟨mX, tX, rfl, oX, hb⟩
  obtain ⟨amX, cmX, rfl⟩ := g_shape oX.1
  obtain ⟨atX, ctX, rfl⟩ := g_shape oX.2
  have NX := hide (OwnBx.base oX)
  have OX := hide oX
  clear oX
  have RW_ := hide ((unhide RW).up hb)
  clear RW
  have RW := RW_
  clear RW_
  have A_ := hide ((unhide A).ups hb)
  clear A
  have A := A_
  clear A_
  have sz5 := hide hb.size
  have BB_ := hide (below_y (unhide BB) hb)
  clear BB
  have BB := BB_
  clear BB_ hb
  obtain ⟨w7, hX⟩ : ∃ X, X = w6.alloc (.cells ([.string b.name, .int .i64 b.valid, .int .i64 b.next, .int .i64 b.mod, .slice amX b.mails.length cmX, .slice atX b.tombs.length ctX, .int .i64 b.hor] : List Value).toArray 31) := ⟨_, rfl⟩
  have Xx : HasObj w7 w6.heap.size 31 [.string b.name, .int .i64 b.valid, .int .i64 b.next, .int .i64 b.mod, .slice amX b.mails.length cmX, .slice atX b.tombs.length ctX, .int .i64 b.hor] := by rw [hX]; exact HasObj.new _ _ _
  have hbn : Below w6.heap.size w6 w7 := by rw [hX]; exact (Below.refl _ _).alloc (Nat.le_refl _) _
  have EX := hX.symm
  clear hX
  have RW_ := hide ((unhide RW).up hbn)
  clear RW
  have RW := RW_
  clear RW_
  have A_ := hide ((unhide A).ups hbn)
  clear A
  have A := A_
  clear A_
  have OX_ := hide ((unhide OX).up hbn)
  clear OX
  have OX := OX_
  clear OX_
  have sz6 := hide hbn.size
  have BB_ := hide (below_y (unhide BB) hbn)
  clear BB
  have BB := BB_
  clear BB_ hbn
  have X := hide Xx
  clear Xx
  have Xc0 := (unhide X).cell 0 rfl
  have Xc1 := (unhide X).cell 1 rfl
  have Xc2 := (unhide X).cell 2 rfl
  have Xc3 := (unhide X).cell 3 rfl
  have Xc4 := (unhide X).cell 4 rfl
  have Xc5 := (unhide X).cell 5 rfl
  have Xc6 := (unhide X).cell 6 rfl
  go_wp2_with fail
  clear Xc0 Xc1 Xc2 Xc3 Xc4 Xc5 Xc6
  refine (unhide CJ _ _ _ _ (unhide OX) (unhide BB)).mono ?_
  rintro e w8 ⟨vG, rfl, oG, hb⟩
  obtain ⟨aG, cG, rfl⟩ := g_shape oG
  have NG := hide (fun g (h : Value.ownBlock _ = some g) => World.ownsRow.lt oG g h)
  have RG := hide oG
  clear oG
  have RW_ := hide ((unhide RW).up hb)
  clear RW
  have RW := RW_
  clear RW_
  have A_ := hide ((unhide A).ups hb)
  clear A
  have A := A_
  clear A_
  have X_ := hide ((unhide X).ups hb)
  clear X
  have X := X_
  clear X_
  have OX_ := hide ((unhide OX).up hb)
  clear OX
  have OX := OX_
  clear OX_
  have sz7 := hide hb.size
  have BB_ := hide (below_y (unhide BB) hb)
  clear BB
  have BB := BB_
  clear BB_ hb
  clear EX
  go_wp2_with fail
  refine (eqRangeS_same l2 _ _ _ _ _ (unhide AL) (unhide RG) (unhide RW)).mono ?_
  rintro e w9 ⟨rfl, hb⟩
  have RW_ := hide ((unhide RW).up hb)
  clear RW
  have RW := RW_
  clear RW_
  have RG_ := hide ((unhide RG).up hb)
  clear RG
  have RG := RG_
  clear RG_
  have A_ := hide ((unhide A).ups hb)
  clear A
  have A := A_
  clear A_
  have X_ := hide ((unhide X).ups hb)
  clear X
  have X := X_
  clear X_
  have OX_ := hide ((unhide OX).up hb)
  clear OX
  have OX := OX_
  clear OX_
  have sz8 := hide hb.size
  have BB_ := hide (below_y (unhide BB) hb)
  clear BB
  have BB := BB_
  clear BB_ hb
  have Xc0 := (unhide X).cell 0 rfl
  have Xc1 := (unhide X).cell 1 rfl
  have Xc2 := (unhide X).cell 2 rfl
  have Xc3 := (unhide X).cell 3 rfl
  have Xc4 := (unhide X).cell 4 rfl
  have Xc5 := (unhide X).cell 5 rfl
  have Xc6 := (unhide X).cell 6 rfl
  have Ac0 := (unhide A).cell 0 rfl
  have Ac1 := (unhide A).cell 1 rfl
  have Ac2 := (unhide A).cell 2 rfl
  have Ac3 := (unhide A).cell 3 rfl
  have Ac4 := (unhide A).cell 4 rfl
  have Ac5 := (unhide A).cell 5 rfl
  have Ac6 := (unhide A).cell 6 rfl
  go_wp2
  refine wp_region_held_drew (S := fun w' => w'.cell? ⟨w6.heap.size, 0, none⟩ = some (.string b.name) ∧ w'.cell? ⟨w6.heap.size, 1, none⟩ = some (.int .i64 b.valid) ∧ w'.cell? ⟨w6.heap.size, 2, none⟩ = some (.int .i64 b.next) ∧ w'.cell? ⟨w6.heap.size, 3, none⟩ = some (.int .i64 b.mod) ∧ w'.cell? ⟨w6.heap.size, 4, none⟩ = some (.slice amX b.mails.length cmX) ∧ w'.cell? ⟨w6.heap.size, 5, none⟩ = some (.slice atX b.tombs.length ctX) ∧ w'.cell? ⟨w6.heap.size, 6, none⟩ = some (.int .i64 b.hor) ∧ w'.cell? ⟨w.heap.size, 0, none⟩ = some (.string b.name) ∧ w'.cell? ⟨w.heap.size, 1, none⟩ = some (.int .i64 b.valid) ∧ w'.cell? ⟨w.heap.size, 2, none⟩ = some (.int .i64 b.next) ∧ w'.cell? ⟨w.heap.size, 3, none⟩ = some (.int .i64 b.mod) ∧ w'.cell? ⟨w.heap.size, 4, none⟩ = some (.slice a1 b.mails.length c1) ∧ w'.cell? ⟨w.heap.size, 5, none⟩ = some (.slice a2 b.tombs.length c2) ∧ w'.cell? ⟨w.heap.size, 6, none⟩ = some (.int .i64 b.hor)) (by kernel_rfl) (⟨Xc0, Xc1, Xc2, Xc3, Xc4, Xc5, Xc6, Ac0, Ac1, Ac2, Ac3, Ac4, Ac5, Ac6⟩) (fun hHeld => ?_)
  refine takeVal 0 (some 45) ?_ rfl (by kernel_rfl) (by kernel_rfl) (by kernel_rfl) rfl (fun _ _ _ h => h) (by rfl) (by assumption) ?_ ?_
  rotate_left
  · (intro w hSw; (try dsimp only at hSw); go_simp <;> with_reducible rfl)
  simp only [Act.put, List.setIfInBounds_toArray, List.set_cons_zero, List.set_cons_succ]
  refine takeVal 1 (some 46) ?_ rfl (by kernel_rfl) (by kernel_rfl) (by kernel_rfl) rfl (fun _ _ _ h => h) (by rfl) (by assumption) ?_ ?_
  rotate_left
  · (intro w hSw; (try dsimp only at hSw); go_simp <;> with_reducible rfl)
  simp only [Act.put, List.setIfInBounds_toArray, List.set_cons_zero, List.set_cons_succ]
  clear Xc0 Xc1 Xc2 Xc3 Xc4 Xc5 Xc6 Ac0 Ac1 Ac2 Ac3 Ac4 Ac5 Ac6
  have RW_ := hide (unhide RW).drew
  clear RW
  have RW := RW_
  clear RW_
  have RG_ := hide (unhide RG).drew
  clear RG
  have RG := RG_
  clear RG_
  have A_ := hide (unhide A).drew
  clear A
  have A := A_
  clear A_
  have X_ := hide (unhide X).drew
  clear X
  have X := X_
  clear X_
  have OX_ := hide (unhide OX).drew
  clear OX
  have OX := OX_
  clear OX_
  have BB_ := hide (unhide BB).drew
  clear BB
  have BB := BB_
  clear BB_
  refine wpAnyH_ready (rs := [2]) (by kernel_rfl) (by simp) ?_
  refine AllReadyH.cons rfl (fun K hK => ?_) AllReadyH.nil
  go_simp
  refine (unhide TB _ (unhide BB)).mono ?_
  rintro e w10 ⟨mC11, tC11, rfl, oC11, hb1⟩
  go_wp2_with fail
  refine hK.out _ _ (⟨((unhide X).ups hb1).cell 0 rfl, ((unhide X).ups hb1).cell 1 rfl, ((unhide X).ups hb1).cell 2 rfl, ((unhide X).ups hb1).cell 3 rfl, ((unhide X).ups hb1).cell 4 rfl, ((unhide X).ups hb1).cell 5 rfl, ((unhide X).ups hb1).cell 6 rfl, ((unhide A).ups hb1).cell 0 rfl, ((unhide A).ups hb1).cell 1 rfl, ((unhide A).ups hb1).cell 2 rfl, ((unhide A).ups hb1).cell 3 rfl, ((unhide A).ups hb1).cell 4 rfl, ((unhide A).ups hb1).cell 5 rfl, ((unhide A).ups hb1).cell 6 rfl⟩) (fun hHeld2 => ?_)
  clear hK K hHeld
  have hHeld := hHeld2; clear hHeld2
  try simp only [Act.put, List.setIfInBounds_toArray, List.set_cons_zero, List.set_cons_succ]
  obtain ⟨amC11, cmC11, rfl⟩ := g_shape oC11.1
  obtain ⟨atC11, ctC11, rfl⟩ := g_shape oC11.2
  have OC11 := hide oC11
  clear oC11
  have RW_ := hide ((unhide RW).up hb1)
  clear RW
  have RW := RW_
  clear RW_
  have RG_ := hide ((unhide RG).up hb1)
  clear RG
  have RG := RG_
  clear RG_
  have A_ := hide ((unhide A).ups hb1)
  clear A
  have A := A_
  clear A_
  have X_ := hide ((unhide X).ups hb1)
  clear X
  have X := X_
  clear X_
  have OX_ := hide ((unhide OX).up hb1)
  clear OX
  have OX := OX_
  clear OX_
  have sz9 := hide hb1.size
  have BB_ := hide (below_y (unhide BB) hb1)
  clear BB
  have BB := BB_
  clear BB_ hb1
  refine wpAnyH_ready (rs := [3]) (by kernel_rfl) (by simp) ?_
  refine AllReadyH.cons rfl (fun K hK => ?_) AllReadyH.nil
  go_simp
  refine (eqBox_same b _ _ _ _ _ _ _ (unhide SM).2.1.1 (unhide SM).2.2 (unhide OX) (unhide OC11)).mono ?_
  rintro e w11 ⟨rfl, hb2⟩
  go_wp2_with fail
  refine hK.out _ _ (⟨((unhide X).ups hb2).cell 0 rfl, ((unhide X).ups hb2).cell 1 rfl, ((unhide X).ups hb2).cell 2 rfl, ((unhide X).ups hb2).cell 3 rfl, ((unhide X).ups hb2).cell 4 rfl, ((unhide X).ups hb2).cell 5 rfl, ((unhide X).ups hb2).cell 6 rfl, ((unhide A).ups hb2).cell 0 rfl, ((unhide A).ups hb2).cell 1 rfl, ((unhide A).ups hb2).cell 2 rfl, ((unhide A).ups hb2).cell 3 rfl, ((unhide A).ups hb2).cell 4 rfl, ((unhide A).ups hb2).cell 5 rfl, ((unhide A).ups hb2).cell 6 rfl⟩) (fun hHeld2 => ?_)
  clear hK K hHeld
  have hHeld := hHeld2; clear hHeld2
  try simp only [Act.put, List.setIfInBounds_toArray, List.set_cons_zero, List.set_cons_succ]
  have RW_ := hide ((unhide RW).up hb2)
  clear RW
  have RW := RW_
  clear RW_
  have RG_ := hide ((unhide RG).up hb2)
  clear RG
  have RG := RG_
  clear RG_
  have A_ := hide ((unhide A).ups hb2)
  clear A
  have A := A_
  clear A_
  have X_ := hide ((unhide X).ups hb2)
  clear X
  have X := X_
  clear X_
  have OX_ := hide ((unhide OX).up hb2)
  clear OX
  have OX := OX_
  clear OX_
  have sz10 := hide hb2.size
  have BB_ := hide (below_y (unhide BB) hb2)
  clear BB
  have BB := BB_
  clear BB_ hb2
  refine takeVal 4 (some 49) ?_ rfl (by kernel_rfl) (by kernel_rfl) (by kernel_rfl) rfl (fun _ _ _ h => h) (by rfl) (by assumption) ?_ ?_
  rotate_left
  · (intro w hSw; (try dsimp only at hSw); go_simp <;> with_reducible rfl)
  simp only [Act.put, List.setIfInBounds_toArray, List.set_cons_zero, List.set_cons_succ]
  refine wpAnyH_done (by kernel_rfl) ?_ _
  have Xc0 := (unhide X).cell 0 rfl
  have Xc1 := (unhide X).cell 1 rfl
  have Xc2 := (unhide X).cell 2 rfl
  have Xc3 := (unhide X).cell 3 rfl
  have Xc4 := (unhide X).cell 4 rfl
  have Xc5 := (unhide X).cell 5 rfl
  have Xc6 := (unhide X).cell 6 rfl
  go_wp2_with fail
  clear Xc0 Xc1 Xc2 Xc3 Xc4 Xc5 Xc6
  refine (markBox_any b _ _ _ 1 _ (unhide SM).2.1.1 (unhide SM).2.2 (by decide) (by decide) (unhide OX)).mono ?_
  rintro e w12 ⟨rfl, om, hg⟩
  have A_ := hide (hg.obj (unhide A) (fun hh => by rcases hh with hh | hh; exact (unhide A).not_row (by decide) (unhide OX).1 hh; exact (unhide A).not_row (by decide) (unhide OX).2 hh))
  have X_ := hide (hg.obj (unhide X) (fun hh => by rcases hh with hh | hh; exact (unhide X).not_row (by decide) (unhide OX).1 hh; exact (unhide X).not_row (by decide) (unhide OX).2 hh))
  have RW_ : Hid (OwnR _ w12 _ _) := hg.row (unhide RW) (fun g hg1 hg2 => by have q1 := unhide NW g hg1; have q2 := unhide NX g hg2; have z1 := unhide sz1; have z2 := unhide sz2; have z3 := unhide sz3; have z4 := unhide sz4; have z5 := unhide sz5; have z6 := unhide sz6; have z7 := unhide sz7; have z8 := unhide sz8; have z9 := unhide sz9; have z10 := unhide sz10; omega)
  have RG_ : Hid (OwnR _ w12 _ _) := hg.row (unhide RG) (fun g hg1 hg2 => by have q1 := unhide NG g hg1; have q2 := unhide NX g hg2; have z1 := unhide sz1; have z2 := unhide sz2; have z3 := unhide sz3; have z4 := unhide sz4; have z5 := unhide sz5; have z6 := unhide sz6; have z7 := unhide sz7; have z8 := unhide sz8; have z9 := unhide sz9; have z10 := unhide sz10; omega)
  have BB_ : Hid (Below w.heap.size w w12) := (unhide BB).trans (hg.toBelow (unhide BB).size (fun g hh => by have q2 := unhide NX g hh; have z1 := unhide sz1; have z2 := unhide sz2; have z3 := unhide sz3; have z4 := unhide sz4; have z5 := unhide sz5; have z6 := unhide sz6; have z7 := unhide sz7; have z8 := unhide sz8; have z9 := unhide sz9; have z10 := unhide sz10; omega))
  have sz11 := hide hg.size
  clear A
  have A := A_
  clear A_
  clear X
  have X := X_
  clear X_
  clear RW
  have RW := RW_
  clear RW_
  clear RG
  have RG := RG_
  clear RG_
  clear BB
  have BB := BB_
  clear BB_
  clear OX
  have OX := hide om
  clear om hg
  clear OX X
  have j1 : ¬ (1 : Int) + (b.mails.length : Int) * 4 + (b.tombs.length : Int) * 2 < 0 := by omega
  go_wp2_with fail
  refine (eqRangeS_same l2 _ _ _ _ _ (unhide AL) (unhide RG) (unhide RW)).mono ?_
  rintro e w13 ⟨rfl, hb⟩
  have RW_ := hide ((unhide RW).up hb)
  clear RW
  have RW := RW_
  clear RW_
  have RG_ := hide ((unhide RG).up hb)
  clear RG
  have RG := RG_
  clear RG_
  have A_ := hide ((unhide A).ups hb)
  clear A
  have A := A_
  clear A_
  have sz12 := hide hb.size
  have BB_ := hide (below_y (unhide BB) hb)
  clear BB
  have BB := BB_
  clear BB_ hb
  go_wp2_with fail
  refine (markRangeS_any l2 _ _ 1 _ (unhide AL) (by decide) (unhide RG)).mono ?_
  rintro e w14 ⟨rfl, om, hg0⟩
  have hg := GrownBut.of hg0
  have A_ := hide (hg.obj (unhide A) (fun hh => (unhide A).not_row (by decide) (unhide RG) hh))
  have RW_ : Hid (OwnR _ w14 _ _) := hg.row (unhide RW) (fun g hg1 hg2 => by have q1 := unhide NW g hg1; have q2 := unhide NG g hg2; have z1 := unhide sz1; have z2 := unhide sz2; have z3 := unhide sz3; have z4 := unhide sz4; have z5 := unhide sz5; have z6 := unhide sz6; have z7 := unhide sz7; have z8 := unhide sz8; have z9 := unhide sz9; have z10 := unhide sz10; have z11 := unhide sz11; have z12 := unhide sz12; omega)
  have BB_ : Hid (Below w.heap.size w w14) := (unhide BB).trans (hg.toBelow (unhide BB).size (fun g hh => by have q2 := unhide NG g hh; have z1 := unhide sz1; have z2 := unhide sz2; have z3 := unhide sz3; have z4 := unhide sz4; have z5 := unhide sz5; have z6 := unhide sz6; have z7 := unhide sz7; have z8 := unhide sz8; have z9 := unhide sz9; have z10 := unhide sz10; have z11 := unhide sz11; have z12 := unhide sz12; omega))
  have sz13 := hide hg.size
  clear A
  have A := A_
  clear A_
  clear RW
  have RW := RW_
  clear RW_
  clear BB
  have BB := BB_
  clear BB_
  clear RG
  have RG := hide om
  clear om hg hg0
  have j2 : ¬ (1 : Int) + (l2.length : Int) * 2 < 0 := by omega
  go_wp2_with fail
  refine (heldRangeS_any l2.length _ _ 1 _ (unhide AL) (by decide) (unhide RG)).mono ?_
  rintro e w15 ⟨rfl, hw⟩
  subst w15
  have Ac0 := (unhide A).cell 0 rfl
  have Ac1 := (unhide A).cell 1 rfl
  have Ac2 := (unhide A).cell 2 rfl
  have Ac3 := (unhide A).cell 3 rfl
  have Ac4 := (unhide A).cell 4 rfl
  have Ac5 := (unhide A).cell 5 rfl
  have Ac6 := (unhide A).cell 6 rfl
  go_wp2_with fail
  clear Ac0 Ac1 Ac2 Ac3 Ac4 Ac5 Ac6
  refine (unhide TB _ (unhide BB)).mono ?_
  rintro e w17 ⟨mQ, tQ, rfl, oQ, hb⟩
  obtain ⟨amQ, cmQ, rfl⟩ := g_shape oQ.1
  obtain ⟨atQ, ctQ, rfl⟩ := g_shape oQ.2
  have NQ := hide (OwnBx.base oQ)
  have OQ := hide oQ
  clear oQ
  have RW_ := hide ((unhide RW).up hb)
  clear RW
  have RW := RW_
  clear RW_
  have RG_ := hide ((unhide RG).up hb)
  clear RG
  have RG := RG_
  clear RG_
  have A_ := hide ((unhide A).ups hb)
  clear A
  have A := A_
  clear A_
  have sz14 := hide hb.size
  have BB_ := hide (below_y (unhide BB) hb)
  clear BB
  have BB := BB_
  clear BB_ hb
  go_wp2_with fail
  refine (unhide CJ _ _ _ _ (unhide OQ) (unhide BB)).mono ?_
  rintro e w18 ⟨vH, rfl, oH, hb⟩
  obtain ⟨aH, cH, rfl⟩ := g_shape oH
  have NH := hide (fun g (h : Value.ownBlock _ = some g) => World.ownsRow.lt oH g h)
  have RH := hide oH
  clear oH
  have RW_ := hide ((unhide RW).up hb)
  clear RW
  have RW := RW_
  clear RW_
  have RG_ := hide ((unhide RG).up hb)
  clear RG
  have RG := RG_
  clear RG_
  have A_ := hide ((unhide A).ups hb)
  clear A
  have A := A_
  clear A_
  have OQ_ := hide ((unhide OQ).up hb)
  clear OQ
  have OQ := OQ_
  clear OQ_
  have sz15 := hide hb.size
  have BB_ := hide (below_y (unhide BB) hb)
  clear BB
  have BB := BB_
  clear BB_ hb
  go_wp2_with fail
  refine (eqRangeS_same l2 _ _ _ _ _ (unhide AL) (unhide RH) (unhide RW)).mono ?_
  rintro e w19 ⟨rfl, hb⟩
  have RW_ := hide ((unhide RW).up hb)
  clear RW
  have RW := RW_
  clear RW_
  have RG_ := hide ((unhide RG).up hb)
  clear RG
  have RG := RG_
  clear RG_
  have RH_ := hide ((unhide RH).up hb)
  clear RH
  have RH := RH_
  clear RH_
  have A_ := hide ((unhide A).ups hb)
  clear A
  have A := A_
  clear A_
  have OQ_ := hide ((unhide OQ).up hb)
  clear OQ
  have OQ := OQ_
  clear OQ_
  have sz16 := hide hb.size
  have BB_ := hide (below_y (unhide BB) hb)
  clear BB
  have BB := BB_
  clear BB_ hb
  go_wp2_with fail
  refine (heldRangeS_any l2.length _ _ 1 _ (unhide AL) (by decide) (unhide RG)).mono ?_
  rintro e w20 ⟨rfl, hw⟩
  subst w20
  go_wp2
  go_ret
  exact ⟨rfl, unhide BB⟩
end Go.Proofs.Ytkjlponggednoac
