/- The walks of exact laws on boxes: over whatever contracts of the program's own functions. Made by gen_boxlaws.py. -/
import Derived.Test.YtkjlponggednoabAddMailS
import Derived.Test.YtkjlponggednoabBoxLed
import Derived.Test.YtkjlponggednoabRegion
namespace Go.Proofs.Ytkjlponggednoab
open Go.RowKit
open Plain
set_option linter.unusedVariables false


set_option maxHeartbeats 16000000 in
set_option maxRecDepth 100000 in
theorem FnExactBoxOk_walk (b : Bx) (a1 a2 : Option Addr) (c1 c2 : Nat) (w : World) (h : ArgBx w.heap.size w a1 a2 b)
    (CI : ∀ (m t : Value) (B : Nat) (W : World), SmallBx 1048576 b → OwnBx B W m t b → Below w.heap.size w W → Calls Try.prog 12 #[boxV b m t] W fun e w' => e = .returned (.bool (boxOk b)) ∧ Below W.heap.size W w') :
    Calls Try.prog 4 #[.agg #[.string b.name, .int .i64 b.valid, .int .i64 b.next, .int .i64 b.mod, .slice a1 b.mails.length c1, .slice a2 b.tombs.length c2, .int .i64 b.hor]] w fun e w' => e = .returned (.bool true) ∧ Below w.heap.size w w' := by
  have BB := hide (Below.refl w.heap.size w)
  have HA := hide h
  have CH := hide CI
  clear h CI
  obtain ⟨w1, hA⟩ : ∃ X, X = w.alloc (.cells ([.string b.name, .int .i64 b.valid, .int .i64 b.next, .int .i64 b.mod, .slice a1 b.mails.length c1, .slice a2 b.tombs.length c2, .int .i64 b.hor] : List Value).toArray 26) := ⟨_, rfl⟩
  have Ax : HasObj w1 w.heap.size 26 [.string b.name, .int .i64 b.valid, .int .i64 b.next, .int .i64 b.mod, .slice a1 b.mails.length c1, .slice a2 b.tombs.length c2, .int .i64 b.hor] := by rw [hA]; exact HasObj.new _ _ _
  have hbn : Below w.heap.size w w1 := by rw [hA]; exact (Below.refl _ _).alloc (Nat.le_refl _) _
  have EA := hA.symm
  clear hA
  have sz1 := hide hbn.size
  have BB_ := hide (below_y (unhide BB) hbn)
  clear BB
  have BB := BB_
  clear BB_ hbn
  have A := hide Ax
  clear Ax
  have SZ := hide (szBox_any b a1 a2 c1 c2 w1 ((unhide HA).up (unhide BB)))
  have Ac0 := (unhide A).cell 0 rfl
  have Ac1 := (unhide A).cell 1 rfl
  have Ac2 := (unhide A).cell 2 rfl
  have Ac3 := (unhide A).cell 3 rfl
  have Ac4 := (unhide A).cell 4 rfl
  have Ac5 := (unhide A).cell 5 rfl
  have Ac6 := (unhide A).cell 6 rfl
  go_enter Try.func4, Try.ntmps4
  go_wp2_with fail
  clear Ac0 Ac1 Ac2 Ac3 Ac4 Ac5 Ac6
  clear EA
  refine (unhide SZ).mono ?_
  rintro e wz ⟨⟨q, rfl, hq⟩, hb⟩
  have A_ := hide ((unhide A).ups hb)
  clear A
  have A := A_
  clear A_
  have sz2 := hide hb.size
  have BB_ := hide (below_y (unhide BB) hb)
  clear BB
  have BB := BB_
  clear BB_ hb
  clear SZ
  rcases hq with rfl | ⟨q, rfl, hq, hsm⟩
  · go_wp2
    go_ret
    exact ⟨rfl, unhide BB⟩
  have i1 : ¬ (q : Int) < 0 := by omega
  have SM := hide hsm
  clear hsm
  have TB := hide (fun (W : World) (hb : Below w.heap.size w W) => toBox_any b a1 a2 c1 c2 W (unhide SM) ((unhide HA).up hb))
  have Ac0 := (unhide A).cell 0 rfl
  have Ac1 := (unhide A).cell 1 rfl
  have Ac2 := (unhide A).cell 2 rfl
  have Ac3 := (unhide A).cell 3 rfl
  have Ac4 := (unhide A).cell 4 rfl
  have Ac5 := (unhide A).cell 5 rfl
  have Ac6 := (unhide A).cell 6 rfl
  go_wp2_with fail
  clear Ac0 Ac1 Ac2 Ac3 Ac4 Ac5 Ac6
  refine (unhide TB _ (unhide BB)).mono ?_
  rintro e w3 ⟨mW, tW, rfl, oW, hb⟩
  obtain ⟨amW, cmW, rfl⟩ := g_shape oW.1
  obtain ⟨atW, ctW, rfl⟩ := g_shape oW.2
  have NW := hide (OwnBx.base oW)
  have OW := hide oW
  clear oW
  have A_ := hide ((unhide A).ups hb)
  clear A
  have A := A_
  clear A_
  have sz3 := hide hb.size
  have BB_ := hide (below_y (unhide BB) hb)
  clear BB
  have BB := BB_
  clear BB_ hb
  go_wp2_with fail
  refine (spec_BoxOk_any b _ _ _ _ (unhide SM).fit (unhide OW)).mono ?_
  rintro e w4 ⟨rfl, hb⟩
  have A_ := hide ((unhide A).ups hb)
  clear A
  have A := A_
  clear A_
  have OW_ := hide ((unhide OW).up hb)
  clear OW
  have OW := OW_
  clear OW_
  have sz4 := hide hb.size
  have BB_ := hide (below_y (unhide BB) hb)
  clear BB
  have BB := BB_
  clear BB_ hb
  have Ac0 := (unhide A).cell 0 rfl
  have Ac1 := (unhide A).cell 1 rfl
  have Ac2 := (unhide A).cell 2 rfl
  have Ac3 := (unhide A).cell 3 rfl
  have Ac4 := (unhide A).cell 4 rfl
  have Ac5 := (unhide A).cell 5 rfl
  have Ac6 := (unhide A).cell 6 rfl
  go_wp2_with fail
  clear Ac0 Ac1 Ac2 Ac3 Ac4 Ac5 Ac6
  refine (unhide TB _ (unhide BB)).mono ?_
  rintro e w6 ⟨mX, tX, rfl, oX, hb⟩
  obtain ⟨amX, cmX, rfl⟩ := g_shape oX.1
  obtain ⟨atX, ctX, rfl⟩ := g_shape oX.2
  have NX := hide (OwnBx.base oX)
  have OX := hide oX
  clear oX
  have A_ := hide ((unhide A).ups hb)
  clear A
  have A := A_
  clear A_
  have OW_ := hide ((unhide OW).up hb)
  clear OW
  have OW := OW_
  clear OW_
  have sz5 := hide hb.size
  have BB_ := hide (below_y (unhide BB) hb)
  clear BB
  have BB := BB_
  clear BB_ hb
  obtain ⟨w7, hX⟩ : ∃ X, X = w6.alloc (.cells ([.string b.name, .int .i64 b.valid, .int .i64 b.next, .int .i64 b.mod, .slice amX b.mails.length cmX, .slice atX b.tombs.length ctX, .int .i64 b.hor] : List Value).toArray 32) := ⟨_, rfl⟩
  have Xx : HasObj w7 w6.heap.size 32 [.string b.name, .int .i64 b.valid, .int .i64 b.next, .int .i64 b.mod, .slice amX b.mails.length cmX, .slice atX b.tombs.length ctX, .int .i64 b.hor] := by rw [hX]; exact HasObj.new _ _ _
  have hbn : Below w6.heap.size w6 w7 := by rw [hX]; exact (Below.refl _ _).alloc (Nat.le_refl _) _
  have EX := hX.symm
  clear hX
  have A_ := hide ((unhide A).ups hbn)
  clear A
  have A := A_
  clear A_
  have OW_ := hide ((unhide OW).up hbn)
  clear OW
  have OW := OW_
  clear OW_
  have OX_ := hide ((unhide OX).up hbn)
  clear OX
  have OX := OX_
  clear OX_
  have sz6 := hide hbn.size
  have BB_ := hide (below_y (unhide BB) hbn)
  clear BB
  have BB := BB_
  clear BB_ hbn
  have X := hide Xx
  clear Xx
  have Xc0 := (unhide X).cell 0 rfl
  have Xc1 := (unhide X).cell 1 rfl
  have Xc2 := (unhide X).cell 2 rfl
  have Xc3 := (unhide X).cell 3 rfl
  have Xc4 := (unhide X).cell 4 rfl
  have Xc5 := (unhide X).cell 5 rfl
  have Xc6 := (unhide X).cell 6 rfl
  go_wp2_with fail
  clear Xc0 Xc1 Xc2 Xc3 Xc4 Xc5 Xc6
  refine (unhide CH _ _ _ _ (unhide SM) (unhide OX) (unhide BB)).mono ?_
  rintro e w8 ⟨rfl, hb⟩
  have A_ := hide ((unhide A).ups hb)
  clear A
  have A := A_
  clear A_
  have X_ := hide ((unhide X).ups hb)
  clear X
  have X := X_
  clear X_
  have OW_ := hide ((unhide OW).up hb)
  clear OW
  have OW := OW_
  clear OW_
  have OX_ := hide ((unhide OX).up hb)
  clear OX
  have OX := OX_
  clear OX_
  have sz7 := hide hb.size
  have BB_ := hide (below_y (unhide BB) hb)
  clear BB
  have BB := BB_
  clear BB_ hb
  clear EX
  have rq : ∀ x : Bool, (!x == x) = false := by decide
  have Xc0 := (unhide X).cell 0 rfl
  have Xc1 := (unhide X).cell 1 rfl
  have Xc2 := (unhide X).cell 2 rfl
  have Xc3 := (unhide X).cell 3 rfl
  have Xc4 := (unhide X).cell 4 rfl
  have Xc5 := (unhide X).cell 5 rfl
  have Xc6 := (unhide X).cell 6 rfl
  have Ac0 := (unhide A).cell 0 rfl
  have Ac1 := (unhide A).cell 1 rfl
  have Ac2 := (unhide A).cell 2 rfl
  have Ac3 := (unhide A).cell 3 rfl
  have Ac4 := (unhide A).cell 4 rfl
  have Ac5 := (unhide A).cell 5 rfl
  have Ac6 := (unhide A).cell 6 rfl
  go_wp2
  refine wp_region_held_drew (S := fun w' => w'.cell? ⟨w6.heap.size, 0, none⟩ = some (.string b.name) ∧ w'.cell? ⟨w6.heap.size, 1, none⟩ = some (.int .i64 b.valid) ∧ w'.cell? ⟨w6.heap.size, 2, none⟩ = some (.int .i64 b.next) ∧ w'.cell? ⟨w6.heap.size, 3, none⟩ = some (.int .i64 b.mod) ∧ w'.cell? ⟨w6.heap.size, 4, none⟩ = some (.slice amX b.mails.length cmX) ∧ w'.cell? ⟨w6.heap.size, 5, none⟩ = some (.slice atX b.tombs.length ctX) ∧ w'.cell? ⟨w6.heap.size, 6, none⟩ = some (.int .i64 b.hor) ∧ w'.cell? ⟨w.heap.size, 0, none⟩ = some (.string b.name) ∧ w'.cell? ⟨w.heap.size, 1, none⟩ = some (.int .i64 b.valid) ∧ w'.cell? ⟨w.heap.size, 2, none⟩ = some (.int .i64 b.next) ∧ w'.cell? ⟨w.heap.size, 3, none⟩ = some (.int .i64 b.mod) ∧ w'.cell? ⟨w.heap.size, 4, none⟩ = some (.slice a1 b.mails.length c1) ∧ w'.cell? ⟨w.heap.size, 5, none⟩ = some (.slice a2 b.tombs.length c2) ∧ w'.cell? ⟨w.heap.size, 6, none⟩ = some (.int .i64 b.hor)) (by kernel_rfl) (⟨Xc0, Xc1, Xc2, Xc3, Xc4, Xc5, Xc6, Ac0, Ac1, Ac2, Ac3, Ac4, Ac5, Ac6⟩) (fun hHeld => ?_)
  refine takeVal 0 (some 22) ?_ rfl (by kernel_rfl) (by kernel_rfl) (by kernel_rfl) rfl (fun _ _ _ h => h) (by rfl) (by assumption) ?_ ?_
  rotate_left
  · (intro w hSw; (try dsimp only at hSw); go_simp <;> with_reducible rfl)
  simp only [Act.put, List.setIfInBounds_toArray, List.set_cons_zero, List.set_cons_succ]
  refine takeVal 1 (some 23) ?_ rfl (by kernel_rfl) (by kernel_rfl) (by kernel_rfl) rfl (fun _ _ _ h => h) (by rfl) (by assumption) ?_ ?_
  rotate_left
  · (intro w hSw; (try dsimp only at hSw); go_simp <;> with_reducible rfl)
  simp only [Act.put, List.setIfInBounds_toArray, List.set_cons_zero, List.set_cons_succ]
  clear Xc0 Xc1 Xc2 Xc3 Xc4 Xc5 Xc6 Ac0 Ac1 Ac2 Ac3 Ac4 Ac5 Ac6
  have A_ := hide (unhide A).drew
  clear A
  have A := A_
  clear A_
  have X_ := hide (unhide X).drew
  clear X
  have X := X_
  clear X_
  have OW_ := hide (unhide OW).drew
  clear OW
  have OW := OW_
  clear OW_
  have OX_ := hide (unhide OX).drew
  clear OX
  have OX := OX_
  clear OX_
  have BB_ := hide (unhide BB).drew
  clear BB
  have BB := BB_
  clear BB_
  refine wpAnyH_ready (rs := [2]) (by kernel_rfl) (by simp) ?_
  refine AllReadyH.cons rfl (fun K hK => ?_) AllReadyH.nil
  go_simp
  refine (unhide TB _ (unhide BB)).mono ?_
  rintro e w9 ⟨mC10, tC10, rfl, oC10, hb1⟩
  go_wp2_with fail
  refine hK.out _ _ (⟨((unhide X).ups hb1).cell 0 rfl, ((unhide X).ups hb1).cell 1 rfl, ((unhide X).ups hb1).cell 2 rfl, ((unhide X).ups hb1).cell 3 rfl, ((unhide X).ups hb1).cell 4 rfl, ((unhide X).ups hb1).cell 5 rfl, ((unhide X).ups hb1).cell 6 rfl, ((unhide A).ups hb1).cell 0 rfl, ((unhide A).ups hb1).cell 1 rfl, ((unhide A).ups hb1).cell 2 rfl, ((unhide A).ups hb1).cell 3 rfl, ((unhide A).ups hb1).cell 4 rfl, ((unhide A).ups hb1).cell 5 rfl, ((unhide A).ups hb1).cell 6 rfl⟩) (fun hHeld2 => ?_)
  clear hK K hHeld
  have hHeld := hHeld2; clear hHeld2
  try simp only [Act.put, List.setIfInBounds_toArray, List.set_cons_zero, List.set_cons_succ]
  obtain ⟨amC10, cmC10, rfl⟩ := g_shape oC10.1
  obtain ⟨atC10, ctC10, rfl⟩ := g_shape oC10.2
  have OC10 := hide oC10
  clear oC10
  have A_ := hide ((unhide A).ups hb1)
  clear A
  have A := A_
  clear A_
  have X_ := hide ((unhide X).ups hb1)
  clear X
  have X := X_
  clear X_
  have OW_ := hide ((unhide OW).up hb1)
  clear OW
  have OW := OW_
  clear OW_
  have OX_ := hide ((unhide OX).up hb1)
  clear OX
  have OX := OX_
  clear OX_
  have sz8 := hide hb1.size
  have BB_ := hide (below_y (unhide BB) hb1)
  clear BB
  have BB := BB_
  clear BB_ hb1
  refine wpAnyH_ready (rs := [3]) (by kernel_rfl) (by simp) ?_
  refine AllReadyH.cons rfl (fun K hK => ?_) AllReadyH.nil
  go_simp
  refine (eqBox_same b _ _ _ _ _ _ _ (unhide SM).2.1.1 (unhide SM).2.2 (unhide OX) (unhide OC10)).mono ?_
  rintro e w10 ⟨rfl, hb2⟩
  go_wp2_with fail
  refine hK.out _ _ (⟨((unhide X).ups hb2).cell 0 rfl, ((unhide X).ups hb2).cell 1 rfl, ((unhide X).ups hb2).cell 2 rfl, ((unhide X).ups hb2).cell 3 rfl, ((unhide X).ups hb2).cell 4 rfl, ((unhide X).ups hb2).cell 5 rfl, ((unhide X).ups hb2).cell 6 rfl, ((unhide A).ups hb2).cell 0 rfl, ((unhide A).ups hb2).cell 1 rfl, ((unhide A).ups hb2).cell 2 rfl, ((unhide A).ups hb2).cell 3 rfl, ((unhide A).ups hb2).cell 4 rfl, ((unhide A).ups hb2).cell 5 rfl, ((unhide A).ups hb2).cell 6 rfl⟩) (fun hHeld2 => ?_)
  clear hK K hHeld
  have hHeld := hHeld2; clear hHeld2
  try simp only [Act.put, List.setIfInBounds_toArray, List.set_cons_zero, List.set_cons_succ]
  have A_ := hide ((unhide A).ups hb2)
  clear A
  have A := A_
  clear A_
  have X_ := hide ((unhide X).ups hb2)
  clear X
  have X := X_
  clear X_
  have OW_ := hide ((unhide OW).up hb2)
  clear OW
  have OW := OW_
  clear OW_
  have OX_ := hide ((unhide OX).up hb2)
  clear OX
  have OX := OX_
  clear OX_
  have sz9 := hide hb2.size
  have BB_ := hide (below_y (unhide BB) hb2)
  clear BB
  have BB := BB_
  clear BB_ hb2
  refine takeVal 4 (some 26) ?_ rfl (by kernel_rfl) (by kernel_rfl) (by kernel_rfl) rfl (fun _ _ _ h => h) (by rfl) (by assumption) ?_ ?_
  rotate_left
  · (intro w hSw; (try dsimp only at hSw); go_simp <;> with_reducible rfl)
  simp only [Act.put, List.setIfInBounds_toArray, List.set_cons_zero, List.set_cons_succ]
  refine wpAnyH_done (by kernel_rfl) ?_ _
  go_wp2
  go_ret
  exact ⟨rfl, unhide BB⟩

namespace Plain
theorem addV_len (b : Bx) (flags : Int) (text : ByteArray) (h1 : b.mails.length ≤ 1048576) (h2 : b.tombs.length ≤ 1048576) : (addV b flags text).1.mails.length ≤ 1048576 ∧ (addV b flags text).1.tombs.length ≤ 1048576 := by
  unfold addV
  split
  · rename_i h
    obtain ⟨_, _, _, _, g4, g5, _⟩ := head_parts (boxOk_iff.1 h.2).1
    exact ⟨Nat.le_trans g4 (by decide), Nat.le_trans g5 (by decide)⟩
  · exact ⟨h1, h2⟩
end Plain

set_option maxHeartbeats 16000000 in
set_option maxRecDepth 100000 in
theorem FnExactAddMail_walk (b : Bx) (a1 a2 : Option Addr) (c1 c2 : Nat) (flags : Int) (text : ByteArray) (w : World) (h : ArgBx w.heap.size w a1 a2 b)
    (CI : ∀ (m t : Value) (B : Nat) (W : World), SmallBx 1048576 b → text.size ≤ 1048576 → OwnBx B W m t b → Below w.heap.size w W → Calls Try.prog 19 #[boxV b m t, .int .i64 flags, .string text] W fun e w' => ∃ m' t', e = .returned (.tuple #[boxV (addV b flags text).1 m' t', .int .i64 (addV b flags text).2]) ∧ OwnBx W.heap.size w' m' t' (addV b flags text).1 ∧ Below W.heap.size W w') :
    Calls Try.prog 6 #[.agg #[.string b.name, .int .i64 b.valid, .int .i64 b.next, .int .i64 b.mod, .slice a1 b.mails.length c1, .slice a2 b.tombs.length c2, .int .i64 b.hor], .int .i64 flags, .string text] w fun e w' => e = .returned (.bool true) ∧ Below w.heap.size w w' := by
  have BB := hide (Below.refl w.heap.size w)
  have HA := hide h
  have CH := hide CI
  clear h CI
  obtain ⟨w1, hA⟩ : ∃ X, X = w.alloc (.cells ([.string b.name, .int .i64 b.valid, .int .i64 b.next, .int .i64 b.mod, .slice a1 b.mails.length c1, .slice a2 b.tombs.length c2, .int .i64 b.hor] : List Value).toArray 26) := ⟨_, rfl⟩
  have Ax : HasObj w1 w.heap.size 26 [.string b.name, .int .i64 b.valid, .int .i64 b.next, .int .i64 b.mod, .slice a1 b.mails.length c1, .slice a2 b.tombs.length c2, .int .i64 b.hor] := by rw [hA]; exact HasObj.new _ _ _
  have hbn : Below w.heap.size w w1 := by rw [hA]; exact (Below.refl _ _).alloc (Nat.le_refl _) _
  have EA := hA.symm
  clear hA
  have sz1 := hide hbn.size
  have BB_ := hide (below_y (unhide BB) hbn)
  clear BB
  have BB := BB_
  clear BB_ hbn
  have A := hide Ax
  clear Ax
  by_cases ht : text.size ≤ 1048576
  rotate_left
  · have d0 : decide ((1048576 : Int) < (text.size : Int)) = true := by rw [decide_eq_true_eq]; omega
    go_enter Try.func6, Try.ntmps6
    go_wp2
    go_ret
    exact ⟨rfl, unhide BB⟩
  have d0 : decide ((1048576 : Int) < (text.size : Int)) = false := by rw [decide_eq_false_iff_not]; omega
  have SZ := hide (szBox_any b a1 a2 c1 c2 w1 ((unhide HA).up (unhide BB)))
  have Ac0 := (unhide A).cell 0 rfl
  have Ac1 := (unhide A).cell 1 rfl
  have Ac2 := (unhide A).cell 2 rfl
  have Ac3 := (unhide A).cell 3 rfl
  have Ac4 := (unhide A).cell 4 rfl
  have Ac5 := (unhide A).cell 5 rfl
  have Ac6 := (unhide A).cell 6 rfl
  go_enter Try.func6, Try.ntmps6
  go_wp2_with fail
  clear Ac0 Ac1 Ac2 Ac3 Ac4 Ac5 Ac6
  clear EA
  refine (unhide SZ).mono ?_
  rintro e wz ⟨⟨q, rfl, hq⟩, hb⟩
  have A_ := hide ((unhide A).ups hb)
  clear A
  have A := A_
  clear A_
  have sz2 := hide hb.size
  have BB_ := hide (below_y (unhide BB) hb)
  clear BB
  have BB := BB_
  clear BB_ hb
  clear SZ
  rcases hq with rfl | ⟨q, rfl, hq, hsm⟩
  · go_wp2
    go_ret
    exact ⟨rfl, unhide BB⟩
  have i1 : ¬ (q : Int) < 0 := by omega
  have SM := hide hsm
  clear hsm
  have TB := hide (fun (W : World) (hb : Below w.heap.size w W) => toBox_any b a1 a2 c1 c2 W (unhide SM) ((unhide HA).up hb))
  have AL := hide (addV_len b flags text (unhide SM).2.1.1 (unhide SM).2.2)
  have SA := hide (fun (m t : Value) (B : Nat) (W : World) (h : OwnBx B W m t b) => spec_AddMail_any b m t B flags text W (unhide SM).fit (unhide SM).2.1.1 ht h)
  have CJ := hide (fun (m t : Value) (B : Nat) (W : World) (h : OwnBx B W m t b) (hb : Below w.heap.size w W) => unhide CH m t B W (unhide SM) ht h hb)
  clear CH
  generalize addV b flags text = r at *
  obtain ⟨b2, u⟩ := r
  simp only at SA CJ AL
  have Ac0 := (unhide A).cell 0 rfl
  have Ac1 := (unhide A).cell 1 rfl
  have Ac2 := (unhide A).cell 2 rfl
  have Ac3 := (unhide A).cell 3 rfl
  have Ac4 := (unhide A).cell 4 rfl
  have Ac5 := (unhide A).cell 5 rfl
  have Ac6 := (unhide A).cell 6 rfl
  go_wp2_with fail
  clear Ac0 Ac1 Ac2 Ac3 Ac4 Ac5 Ac6
  refine (unhide TB _ (unhide BB)).mono ?_
  rintro e w3 ⟨mP, tP, rfl, oP, hb⟩
  obtain ⟨amP, cmP, rfl⟩ := g_shape oP.1
  obtain ⟨atP, ctP, rfl⟩ := g_shape oP.2
  have NP := hide (OwnBx.base oP)
  have OP := hide oP
  clear oP
  have A_ := hide ((unhide A).ups hb)
  clear A
  have A := A_
  clear A_
  have sz3 := hide hb.size
  have BB_ := hide (below_y (unhide BB) hb)
  clear BB
  have BB := BB_
  clear BB_ hb
  go_wp2_with fail
  refine (unhide SA _ _ _ _ (unhide OP)).mono ?_
  rintro e w4 ⟨mW, tW, rfl, oW, hb⟩
  obtain ⟨amW, cmW, rfl⟩ := g_shape oW.1
  obtain ⟨atW, ctW, rfl⟩ := g_shape oW.2
  have NW := hide (OwnBx.base oW)
  have OW := hide oW
  clear oW
  have A_ := hide ((unhide A).ups hb)
  clear A
  have A := A_
  clear A_
  have OP_ := hide ((unhide OP).up hb)
  clear OP
  have OP := OP_
  clear OP_
  have sz4 := hide hb.size
  have BB_ := hide (below_y (unhide BB) hb)
  clear BB
  have BB := BB_
  clear BB_ hb
  clear OP
  obtain ⟨w5, hW⟩ : ∃ X, X = w4.alloc (.cells ([.string b2.name, .int .i64 b2.valid, .int .i64 b2.next, .int .i64 b2.mod, .slice amW b2.mails.length cmW, .slice atW b2.tombs.length ctW, .int .i64 b2.hor] : List Value).toArray 32) := ⟨_, rfl⟩
  have Wx : HasObj w5 w4.heap.size 32 [.string b2.name, .int .i64 b2.valid, .int .i64 b2.next, .int .i64 b2.mod, .slice amW b2.mails.length cmW, .slice atW b2.tombs.length ctW, .int .i64 b2.hor] := by rw [hW]; exact HasObj.new _ _ _
  have hbn : Below w4.heap.size w4 w5 := by rw [hW]; exact (Below.refl _ _).alloc (Nat.le_refl _) _
  have EW := hW.symm
  clear hW
  have A_ := hide ((unhide A).ups hbn)
  clear A
  have A := A_
  clear A_
  have OW_ := hide ((unhide OW).up hbn)
  clear OW
  have OW := OW_
  clear OW_
  have sz5 := hide hbn.size
  have BB_ := hide (below_y (unhide BB) hbn)
  clear BB
  have BB := BB_
  clear BB_ hbn
  have W := hide Wx
  clear Wx
  have Ac0 := (unhide A).cell 0 rfl
  have Ac1 := (unhide A).cell 1 rfl
  have Ac2 := (unhide A).cell 2 rfl
  have Ac3 := (unhide A).cell 3 rfl
  have Ac4 := (unhide A).cell 4 rfl
  have Ac5 := (unhide A).cell 5 rfl
  have Ac6 := (unhide A).cell 6 rfl
  go_wp2_with fail
  clear Ac0 Ac1 Ac2 Ac3 Ac4 Ac5 Ac6
  refine (unhide TB _ (unhide BB)).mono ?_
  rintro e w7 ⟨mX, tX, rfl, oX, hb⟩
  obtain ⟨amX, cmX, rfl⟩ := g_shape oX.1
  obtain ⟨atX, ctX, rfl⟩ := g_shape oX.2
  have NX := hide (OwnBx.base oX)
  have OX := hide oX
  clear oX
  have A_ := hide ((unhide A).ups hb)
  clear A
  have A := A_
  clear A_
  have W_ := hide ((unhide W).ups hb)
  clear W
  have W := W_
  clear W_
  have OW_ := hide ((unhide OW).up hb)
  clear OW
  have OW := OW_
  clear OW_
  have sz6 := hide hb.size
  have BB_ := hide (below_y (unhide BB) hb)
  clear BB
  have BB := BB_
  clear BB_ hb
  clear EW
  obtain ⟨w8, hX⟩ : ∃ X, X = w7.alloc (.cells ([.string b.name, .int .i64 b.valid, .int .i64 b.next, .int .i64 b.mod, .slice amX b.mails.length cmX, .slice atX b.tombs.length ctX, .int .i64 b.hor] : List Value).toArray 32) := ⟨_, rfl⟩
  have Xx : HasObj w8 w7.heap.size 32 [.string b.name, .int .i64 b.valid, .int .i64 b.next, .int .i64 b.mod, .slice amX b.mails.length cmX, .slice atX b.tombs.length ctX, .int .i64 b.hor] := by rw [hX]; exact HasObj.new _ _ _
  have hbn : Below w7.heap.size w7 w8 := by rw [hX]; exact (Below.refl _ _).alloc (Nat.le_refl _) _
  have EX := hX.symm
  clear hX
  have A_ := hide ((unhide A).ups hbn)
  clear A
  have A := A_
  clear A_
  have W_ := hide ((unhide W).ups hbn)
  clear W
  have W := W_
  clear W_
  have OW_ := hide ((unhide OW).up hbn)
  clear OW
  have OW := OW_
  clear OW_
  have OX_ := hide ((unhide OX).up hbn)
  clear OX
  have OX := OX_
  clear OX_
  have sz7 := hide hbn.size
  have BB_ := hide (below_y (unhide BB) hbn)
  clear BB
  have BB := BB_
  clear BB_ hbn
  have X := hide Xx
  clear Xx
  have Xc0 := (unhide X).cell 0 rfl
  have Xc1 := (unhide X).cell 1 rfl
  have Xc2 := (unhide X).cell 2 rfl
  have Xc3 := (unhide X).cell 3 rfl
  have Xc4 := (unhide X).cell 4 rfl
  have Xc5 := (unhide X).cell 5 rfl
  have Xc6 := (unhide X).cell 6 rfl
  go_wp2_with fail
  clear Xc0 Xc1 Xc2 Xc3 Xc4 Xc5 Xc6
  refine (unhide CJ _ _ _ _ (unhide OX) (unhide BB)).mono ?_
  rintro e w9 ⟨mG, tG, rfl, oG, hb⟩
  obtain ⟨amG, cmG, rfl⟩ := g_shape oG.1
  obtain ⟨atG, ctG, rfl⟩ := g_shape oG.2
  have NG := hide (OwnBx.base oG)
  have OG := hide oG
  clear oG
  have A_ := hide ((unhide A).ups hb)
  clear A
  have A := A_
  clear A_
  have W_ := hide ((unhide W).ups hb)
  clear W
  have W := W_
  clear W_
  have X_ := hide ((unhide X).ups hb)
  clear X
  have X := X_
  clear X_
  have OW_ := hide ((unhide OW).up hb)
  clear OW
  have OW := OW_
  clear OW_
  have OX_ := hide ((unhide OX).up hb)
  clear OX
  have OX := OX_
  clear OX_
  have sz8 := hide hb.size
  have BB_ := hide (below_y (unhide BB) hb)
  clear BB
  have BB := BB_
  clear BB_ hb
  clear EX
  obtain ⟨w10, hG⟩ : ∃ X, X = w9.alloc (.cells ([.string b2.name, .int .i64 b2.valid, .int .i64 b2.next, .int .i64 b2.mod, .slice amG b2.mails.length cmG, .slice atG b2.tombs.length ctG, .int .i64 b2.hor] : List Value).toArray 32) := ⟨_, rfl⟩
  have Gx : HasObj w10 w9.heap.size 32 [.string b2.name, .int .i64 b2.valid, .int .i64 b2.next, .int .i64 b2.mod, .slice amG b2.mails.length cmG, .slice atG b2.tombs.length ctG, .int .i64 b2.hor] := by rw [hG]; exact HasObj.new _ _ _
  have hbn : Below w9.heap.size w9 w10 := by rw [hG]; exact (Below.refl _ _).alloc (Nat.le_refl _) _
  have EG := hG.symm
  clear hG
  have A_ := hide ((unhide A).ups hbn)
  clear A
  have A := A_
  clear A_
  have W_ := hide ((unhide W).ups hbn)
  clear W
  have W := W_
  clear W_
  have X_ := hide ((unhide X).ups hbn)
  clear X
  have X := X_
  clear X_
  have OW_ := hide ((unhide OW).up hbn)
  clear OW
  have OW := OW_
  clear OW_
  have OX_ := hide ((unhide OX).up hbn)
  clear OX
  have OX := OX_
  clear OX_
  have OG_ := hide ((unhide OG).up hbn)
  clear OG
  have OG := OG_
  clear OG_
  have sz9 := hide hbn.size
  have BB_ := hide (below_y (unhide BB) hbn)
  clear BB
  have BB := BB_
  clear BB_ hbn
  have G := hide Gx
  clear Gx
  have Gc0 := (unhide G).cell 0 rfl
  have Gc1 := (unhide G).cell 1 rfl
  have Gc2 := (unhide G).cell 2 rfl
  have Gc3 := (unhide G).cell 3 rfl
  have Gc4 := (unhide G).cell 4 rfl
  have Gc5 := (unhide G).cell 5 rfl
  have Gc6 := (unhide G).cell 6 rfl
  have Wc0 := (unhide W).cell 0 rfl
  have Wc1 := (unhide W).cell 1 rfl
  have Wc2 := (unhide W).cell 2 rfl
  have Wc3 := (unhide W).cell 3 rfl
  have Wc4 := (unhide W).cell 4 rfl
  have Wc5 := (unhide W).cell 5 rfl
  have Wc6 := (unhide W).cell 6 rfl
  go_wp2_with fail
  clear Gc0 Gc1 Gc2 Gc3 Gc4 Gc5 Gc6 Wc0 Wc1 Wc2 Wc3 Wc4 Wc5 Wc6
  refine (eqBox_same b2 _ _ _ _ _ _ _ (unhide AL).1 (unhide AL).2 (unhide OG) (unhide OW)).mono ?_
  rintro e w11 ⟨rfl, hb⟩
  have A_ := hide ((unhide A).ups hb)
  clear A
  have A := A_
  clear A_
  have W_ := hide ((unhide W).ups hb)
  clear W
  have W := W_
  clear W_
  have X_ := hide ((unhide X).ups hb)
  clear X
  have X := X_
  clear X_
  have G_ := hide ((unhide G).ups hb)
  clear G
  have G := G_
  clear G_
  have OW_ := hide ((unhide OW).up hb)
  clear OW
  have OW := OW_
  clear OW_
  have OX_ := hide ((unhide OX).up hb)
  clear OX
  have OX := OX_
  clear OX_
  have OG_ := hide ((unhide OG).up hb)
  clear OG
  have OG := OG_
  clear OG_
  have sz10 := hide hb.size
  have BB_ := hide (below_y (unhide BB) hb)
  clear BB
  have BB := BB_
  clear BB_ hb
  clear EG
  have Xc0 := (unhide X).cell 0 rfl
  have Xc1 := (unhide X).cell 1 rfl
  have Xc2 := (unhide X).cell 2 rfl
  have Xc3 := (unhide X).cell 3 rfl
  have Xc4 := (unhide X).cell 4 rfl
  have Xc5 := (unhide X).cell 5 rfl
  have Xc6 := (unhide X).cell 6 rfl
  have Ac0 := (unhide A).cell 0 rfl
  have Ac1 := (unhide A).cell 1 rfl
  have Ac2 := (unhide A).cell 2 rfl
  have Ac3 := (unhide A).cell 3 rfl
  have Ac4 := (unhide A).cell 4 rfl
  have Ac5 := (unhide A).cell 5 rfl
  have Ac6 := (unhide A).cell 6 rfl
  go_wp2
  refine wp_region_held_drew (S := fun w' => w'.cell? ⟨w7.heap.size, 0, none⟩ = some (.string b.name) ∧ w'.cell? ⟨w7.heap.size, 1, none⟩ = some (.int .i64 b.valid) ∧ w'.cell? ⟨w7.heap.size, 2, none⟩ = some (.int .i64 b.next) ∧ w'.cell? ⟨w7.heap.size, 3, none⟩ = some (.int .i64 b.mod) ∧ w'.cell? ⟨w7.heap.size, 4, none⟩ = some (.slice amX b.mails.length cmX) ∧ w'.cell? ⟨w7.heap.size, 5, none⟩ = some (.slice atX b.tombs.length ctX) ∧ w'.cell? ⟨w7.heap.size, 6, none⟩ = some (.int .i64 b.hor) ∧ w'.cell? ⟨w.heap.size, 0, none⟩ = some (.string b.name) ∧ w'.cell? ⟨w.heap.size, 1, none⟩ = some (.int .i64 b.valid) ∧ w'.cell? ⟨w.heap.size, 2, none⟩ = some (.int .i64 b.next) ∧ w'.cell? ⟨w.heap.size, 3, none⟩ = some (.int .i64 b.mod) ∧ w'.cell? ⟨w.heap.size, 4, none⟩ = some (.slice a1 b.mails.length c1) ∧ w'.cell? ⟨w.heap.size, 5, none⟩ = some (.slice a2 b.tombs.length c2) ∧ w'.cell? ⟨w.heap.size, 6, none⟩ = some (.int .i64 b.hor)) (by kernel_rfl) (⟨Xc0, Xc1, Xc2, Xc3, Xc4, Xc5, Xc6, Ac0, Ac1, Ac2, Ac3, Ac4, Ac5, Ac6⟩) (fun hHeld => ?_)
  refine takeVal 0 (some 52) ?_ rfl (by kernel_rfl) (by kernel_rfl) (by kernel_rfl) rfl (fun _ _ _ h => h) (by rfl) (by assumption) ?_ ?_
  rotate_left
  · (intro w hSw; (try dsimp only at hSw); go_simp <;> with_reducible rfl)
  simp only [Act.put, List.setIfInBounds_toArray, List.set_cons_zero, List.set_cons_succ]
  refine takeVal 1 (some 53) ?_ rfl (by kernel_rfl) (by kernel_rfl) (by kernel_rfl) rfl (fun _ _ _ h => h) (by rfl) (by assumption) ?_ ?_
  rotate_left
  · (intro w hSw; (try dsimp only at hSw); go_simp <;> with_reducible rfl)
  simp only [Act.put, List.setIfInBounds_toArray, List.set_cons_zero, List.set_cons_succ]
  clear Xc0 Xc1 Xc2 Xc3 Xc4 Xc5 Xc6 Ac0 Ac1 Ac2 Ac3 Ac4 Ac5 Ac6
  have A_ := hide (unhide A).drew
  clear A
  have A := A_
  clear A_
  have W_ := hide (unhide W).drew
  clear W
  have W := W_
  clear W_
  have X_ := hide (unhide X).drew
  clear X
  have X := X_
  clear X_
  have G_ := hide (unhide G).drew
  clear G
  have G := G_
  clear G_
  have OW_ := hide (unhide OW).drew
  clear OW
  have OW := OW_
  clear OW_
  have OX_ := hide (unhide OX).drew
  clear OX
  have OX := OX_
  clear OX_
  have OG_ := hide (unhide OG).drew
  clear OG
  have OG := OG_
  clear OG_
  have BB_ := hide (unhide BB).drew
  clear BB
  have BB := BB_
  clear BB_
  refine wpAnyH_ready (rs := [2]) (by kernel_rfl) (by simp) ?_
  refine AllReadyH.cons rfl (fun K hK => ?_) AllReadyH.nil
  go_simp
  refine (unhide TB _ (unhide BB)).mono ?_
  rintro e w12 ⟨mC13, tC13, rfl, oC13, hb1⟩
  go_wp2_with fail
  refine hK.out _ _ (⟨((unhide X).ups hb1).cell 0 rfl, ((unhide X).ups hb1).cell 1 rfl, ((unhide X).ups hb1).cell 2 rfl, ((unhide X).ups hb1).cell 3 rfl, ((unhide X).ups hb1).cell 4 rfl, ((unhide X).ups hb1).cell 5 rfl, ((unhide X).ups hb1).cell 6 rfl, ((unhide A).ups hb1).cell 0 rfl, ((unhide A).ups hb1).cell 1 rfl, ((unhide A).ups hb1).cell 2 rfl, ((unhide A).ups hb1).cell 3 rfl, ((unhide A).ups hb1).cell 4 rfl, ((unhide A).ups hb1).cell 5 rfl, ((unhide A).ups hb1).cell 6 rfl⟩) (fun hHeld2 => ?_)
  clear hK K hHeld
  have hHeld := hHeld2; clear hHeld2
  try simp only [Act.put, List.setIfInBounds_toArray, List.set_cons_zero, List.set_cons_succ]
  obtain ⟨amC13, cmC13, rfl⟩ := g_shape oC13.1
  obtain ⟨atC13, ctC13, rfl⟩ := g_shape oC13.2
  have OC13 := hide oC13
  clear oC13
  have A_ := hide ((unhide A).ups hb1)
  clear A
  have A := A_
  clear A_
  have W_ := hide ((unhide W).ups hb1)
  clear W
  have W := W_
  clear W_
  have X_ := hide ((unhide X).ups hb1)
  clear X
  have X := X_
  clear X_
  have G_ := hide ((unhide G).ups hb1)
  clear G
  have G := G_
  clear G_
  have OW_ := hide ((unhide OW).up hb1)
  clear OW
  have OW := OW_
  clear OW_
  have OX_ := hide ((unhide OX).up hb1)
  clear OX
  have OX := OX_
  clear OX_
  have OG_ := hide ((unhide OG).up hb1)
  clear OG
  have OG := OG_
  clear OG_
  have sz11 := hide hb1.size
  have BB_ := hide (below_y (unhide BB) hb1)
  clear BB
  have BB := BB_
  clear BB_ hb1
  refine wpAnyH_ready (rs := [3]) (by kernel_rfl) (by simp) ?_
  refine AllReadyH.cons rfl (fun K hK => ?_) AllReadyH.nil
  go_simp
  refine (eqBox_same b _ _ _ _ _ _ _ (unhide SM).2.1.1 (unhide SM).2.2 (unhide OX) (unhide OC13)).mono ?_
  rintro e w13 ⟨rfl, hb2⟩
  go_wp2_with fail
  refine hK.out _ _ (⟨((unhide X).ups hb2).cell 0 rfl, ((unhide X).ups hb2).cell 1 rfl, ((unhide X).ups hb2).cell 2 rfl, ((unhide X).ups hb2).cell 3 rfl, ((unhide X).ups hb2).cell 4 rfl, ((unhide X).ups hb2).cell 5 rfl, ((unhide X).ups hb2).cell 6 rfl, ((unhide A).ups hb2).cell 0 rfl, ((unhide A).ups hb2).cell 1 rfl, ((unhide A).ups hb2).cell 2 rfl, ((unhide A).ups hb2).cell 3 rfl, ((unhide A).ups hb2).cell 4 rfl, ((unhide A).ups hb2).cell 5 rfl, ((unhide A).ups hb2).cell 6 rfl⟩) (fun hHeld2 => ?_)
  clear hK K hHeld
  have hHeld := hHeld2; clear hHeld2
  try simp only [Act.put, List.setIfInBounds_toArray, List.set_cons_zero, List.set_cons_succ]
  have A_ := hide ((unhide A).ups hb2)
  clear A
  have A := A_
  clear A_
  have W_ := hide ((unhide W).ups hb2)
  clear W
  have W := W_
  clear W_
  have X_ := hide ((unhide X).ups hb2)
  clear X
  have X := X_
  clear X_
  have G_ := hide ((unhide G).ups hb2)
  clear G
  have G := G_
  clear G_
  have OW_ := hide ((unhide OW).up hb2)
  clear OW
  have OW := OW_
  clear OW_
  have OX_ := hide ((unhide OX).up hb2)
  clear OX
  have OX := OX_
  clear OX_
  have OG_ := hide ((unhide OG).up hb2)
  clear OG
  have OG := OG_
  clear OG_
  have sz12 := hide hb2.size
  have BB_ := hide (below_y (unhide BB) hb2)
  clear BB
  have BB := BB_
  clear BB_ hb2
  refine takeVal 4 (some 56) ?_ rfl (by kernel_rfl) (by kernel_rfl) (by kernel_rfl) rfl (fun _ _ _ h => h) (by rfl) (by assumption) ?_ ?_
  rotate_left
  · (intro w hSw; (try dsimp only at hSw); go_simp <;> with_reducible rfl)
  simp only [Act.put, List.setIfInBounds_toArray, List.set_cons_zero, List.set_cons_succ]
  refine wpAnyH_done (by kernel_rfl) ?_ _
  have Xc0 := (unhide X).cell 0 rfl
  have Xc1 := (unhide X).cell 1 rfl
  have Xc2 := (unhide X).cell 2 rfl
  have Xc3 := (unhide X).cell 3 rfl
  have Xc4 := (unhide X).cell 4 rfl
  have Xc5 := (unhide X).cell 5 rfl
  have Xc6 := (unhide X).cell 6 rfl
  go_wp2_with fail
  clear Xc0 Xc1 Xc2 Xc3 Xc4 Xc5 Xc6
  refine (markBox_any b _ _ _ 1 _ (unhide SM).2.1.1 (unhide SM).2.2 (by decide) (by decide) (unhide OX)).mono ?_
  rintro e w14 ⟨rfl, om, hg⟩
  have A_ := hide (hg.obj (unhide A) (fun hh => by rcases hh with hh | hh; exact (unhide A).not_row (by decide) (unhide OX).1 hh; exact (unhide A).not_row (by decide) (unhide OX).2 hh))
  have W_ := hide (hg.obj (unhide W) (fun hh => by rcases hh with hh | hh; exact (unhide W).not_row (by decide) (unhide OX).1 hh; exact (unhide W).not_row (by decide) (unhide OX).2 hh))
  have X_ := hide (hg.obj (unhide X) (fun hh => by rcases hh with hh | hh; exact (unhide X).not_row (by decide) (unhide OX).1 hh; exact (unhide X).not_row (by decide) (unhide OX).2 hh))
  have G_ := hide (hg.obj (unhide G) (fun hh => by rcases hh with hh | hh; exact (unhide G).not_row (by decide) (unhide OX).1 hh; exact (unhide G).not_row (by decide) (unhide OX).2 hh))
  have OW_ := hide ((unhide OW).but hg (fun g hg1 hg2 => by have q1 := unhide NW g hg1; have q2 := unhide NX g hg2; have z1 := unhide sz1; have z2 := unhide sz2; have z3 := unhide sz3; have z4 := unhide sz4; have z5 := unhide sz5; have z6 := unhide sz6; have z7 := unhide sz7; have z8 := unhide sz8; have z9 := unhide sz9; have z10 := unhide sz10; have z11 := unhide sz11; have z12 := unhide sz12; omega))
  have OG_ := hide ((unhide OG).but hg (fun g hg1 hg2 => by have q1 := unhide NG g hg1; have q2 := unhide NX g hg2; have z1 := unhide sz1; have z2 := unhide sz2; have z3 := unhide sz3; have z4 := unhide sz4; have z5 := unhide sz5; have z6 := unhide sz6; have z7 := unhide sz7; have z8 := unhide sz8; have z9 := unhide sz9; have z10 := unhide sz10; have z11 := unhide sz11; have z12 := unhide sz12; omega))
  have BB_ : Hid (Below w.heap.size w w14) := (unhide BB).trans (hg.toBelow (unhide BB).size (fun g hh => by have q2 := unhide NX g hh; have z1 := unhide sz1; have z2 := unhide sz2; have z3 := unhide sz3; have z4 := unhide sz4; have z5 := unhide sz5; have z6 := unhide sz6; have z7 := unhide sz7; have z8 := unhide sz8; have z9 := unhide sz9; have z10 := unhide sz10; have z11 := unhide sz11; have z12 := unhide sz12; omega))
  have sz13 := hide hg.size
  clear A
  have A := A_
  clear A_
  clear W
  have W := W_
  clear W_
  clear X
  have X := X_
  clear X_
  clear G
  have G := G_
  clear G_
  clear OW
  have OW := OW_
  clear OW_
  clear OG
  have OG := OG_
  clear OG_
  clear BB
  have BB := BB_
  clear BB_
  clear OX
  have OX := hide om
  clear om hg
  clear OX X
  have j1 : ¬ (1 : Int) + (b.mails.length : Int) * 4 + (b.tombs.length : Int) * 2 < 0 := by omega
  have Gc0 := (unhide G).cell 0 rfl
  have Gc1 := (unhide G).cell 1 rfl
  have Gc2 := (unhide G).cell 2 rfl
  have Gc3 := (unhide G).cell 3 rfl
  have Gc4 := (unhide G).cell 4 rfl
  have Gc5 := (unhide G).cell 5 rfl
  have Gc6 := (unhide G).cell 6 rfl
  have Wc0 := (unhide W).cell 0 rfl
  have Wc1 := (unhide W).cell 1 rfl
  have Wc2 := (unhide W).cell 2 rfl
  have Wc3 := (unhide W).cell 3 rfl
  have Wc4 := (unhide W).cell 4 rfl
  have Wc5 := (unhide W).cell 5 rfl
  have Wc6 := (unhide W).cell 6 rfl
  go_wp2_with fail
  clear Gc0 Gc1 Gc2 Gc3 Gc4 Gc5 Gc6 Wc0 Wc1 Wc2 Wc3 Wc4 Wc5 Wc6
  refine (eqBox_same b2 _ _ _ _ _ _ _ (unhide AL).1 (unhide AL).2 (unhide OG) (unhide OW)).mono ?_
  rintro e w15 ⟨rfl, hb⟩
  have A_ := hide ((unhide A).ups hb)
  clear A
  have A := A_
  clear A_
  have W_ := hide ((unhide W).ups hb)
  clear W
  have W := W_
  clear W_
  have G_ := hide ((unhide G).ups hb)
  clear G
  have G := G_
  clear G_
  have OW_ := hide ((unhide OW).up hb)
  clear OW
  have OW := OW_
  clear OW_
  have OG_ := hide ((unhide OG).up hb)
  clear OG
  have OG := OG_
  clear OG_
  have sz14 := hide hb.size
  have BB_ := hide (below_y (unhide BB) hb)
  clear BB
  have BB := BB_
  clear BB_ hb
  have Gc0 := (unhide G).cell 0 rfl
  have Gc1 := (unhide G).cell 1 rfl
  have Gc2 := (unhide G).cell 2 rfl
  have Gc3 := (unhide G).cell 3 rfl
  have Gc4 := (unhide G).cell 4 rfl
  have Gc5 := (unhide G).cell 5 rfl
  have Gc6 := (unhide G).cell 6 rfl
  go_wp2_with fail
  clear Gc0 Gc1 Gc2 Gc3 Gc4 Gc5 Gc6
  refine (markBox_any b2 _ _ _ 1 _ (unhide AL).1 (unhide AL).2 (by decide) (by decide) (unhide OG)).mono ?_
  rintro e w16 ⟨rfl, om, hg⟩
  have A_ := hide (hg.obj (unhide A) (fun hh => by rcases hh with hh | hh; exact (unhide A).not_row (by decide) (unhide OG).1 hh; exact (unhide A).not_row (by decide) (unhide OG).2 hh))
  have W_ := hide (hg.obj (unhide W) (fun hh => by rcases hh with hh | hh; exact (unhide W).not_row (by decide) (unhide OG).1 hh; exact (unhide W).not_row (by decide) (unhide OG).2 hh))
  have G_ := hide (hg.obj (unhide G) (fun hh => by rcases hh with hh | hh; exact (unhide G).not_row (by decide) (unhide OG).1 hh; exact (unhide G).not_row (by decide) (unhide OG).2 hh))
  have OW_ := hide ((unhide OW).but hg (fun g hg1 hg2 => by have q1 := unhide NW g hg1; have q2 := unhide NG g hg2; have z1 := unhide sz1; have z2 := unhide sz2; have z3 := unhide sz3; have z4 := unhide sz4; have z5 := unhide sz5; have z6 := unhide sz6; have z7 := unhide sz7; have z8 := unhide sz8; have z9 := unhide sz9; have z10 := unhide sz10; have z11 := unhide sz11; have z12 := unhide sz12; have z13 := unhide sz13; have z14 := unhide sz14; omega))
  have BB_ : Hid (Below w.heap.size w w16) := (unhide BB).trans (hg.toBelow (unhide BB).size (fun g hh => by have q2 := unhide NG g hh; have z1 := unhide sz1; have z2 := unhide sz2; have z3 := unhide sz3; have z4 := unhide sz4; have z5 := unhide sz5; have z6 := unhide sz6; have z7 := unhide sz7; have z8 := unhide sz8; have z9 := unhide sz9; have z10 := unhide sz10; have z11 := unhide sz11; have z12 := unhide sz12; have z13 := unhide sz13; have z14 := unhide sz14; omega))
  have sz15 := hide hg.size
  clear A
  have A := A_
  clear A_
  clear W
  have W := W_
  clear W_
  clear G
  have G := G_
  clear G_
  clear OW
  have OW := OW_
  clear OW_
  clear BB
  have BB := BB_
  clear BB_
  clear OG
  have OG := hide om
  clear om hg
  have j2 : ¬ (1 : Int) + (b2.mails.length : Int) * 4 + (b2.tombs.length : Int) * 2 < 0 := by omega
  have Gc0 := (unhide G).cell 0 rfl
  have Gc1 := (unhide G).cell 1 rfl
  have Gc2 := (unhide G).cell 2 rfl
  have Gc3 := (unhide G).cell 3 rfl
  have Gc4 := (unhide G).cell 4 rfl
  have Gc5 := (unhide G).cell 5 rfl
  have Gc6 := (unhide G).cell 6 rfl
  go_wp2_with fail
  clear Gc0 Gc1 Gc2 Gc3 Gc4 Gc5 Gc6
  refine (heldBox_any b2 _ _ _ 1 _ (unhide AL).1 (unhide AL).2 (by decide) (by decide) (unhide OG)).mono ?_
  rintro e w17 ⟨rfl, hb⟩
  have A_ := hide ((unhide A).ups hb)
  clear A
  have A := A_
  clear A_
  have W_ := hide ((unhide W).ups hb)
  clear W
  have W := W_
  clear W_
  have G_ := hide ((unhide G).ups hb)
  clear G
  have G := G_
  clear G_
  have OW_ := hide ((unhide OW).up hb)
  clear OW
  have OW := OW_
  clear OW_
  have OG_ := hide ((unhide OG).up hb)
  clear OG
  have OG := OG_
  clear OG_
  have sz16 := hide hb.size
  have BB_ := hide (below_y (unhide BB) hb)
  clear BB
  have BB := BB_
  clear BB_ hb
  have Ac0 := (unhide A).cell 0 rfl
  have Ac1 := (unhide A).cell 1 rfl
  have Ac2 := (unhide A).cell 2 rfl
  have Ac3 := (unhide A).cell 3 rfl
  have Ac4 := (unhide A).cell 4 rfl
  have Ac5 := (unhide A).cell 5 rfl
  have Ac6 := (unhide A).cell 6 rfl
  go_wp2_with fail
  clear Ac0 Ac1 Ac2 Ac3 Ac4 Ac5 Ac6
  refine (unhide TB _ (unhide BB)).mono ?_
  rintro e w19 ⟨mQ, tQ, rfl, oQ, hb⟩
  obtain ⟨amQ, cmQ, rfl⟩ := g_shape oQ.1
  obtain ⟨atQ, ctQ, rfl⟩ := g_shape oQ.2
  have NQ := hide (OwnBx.base oQ)
  have OQ := hide oQ
  clear oQ
  have A_ := hide ((unhide A).ups hb)
  clear A
  have A := A_
  clear A_
  have W_ := hide ((unhide W).ups hb)
  clear W
  have W := W_
  clear W_
  have G_ := hide ((unhide G).ups hb)
  clear G
  have G := G_
  clear G_
  have OW_ := hide ((unhide OW).up hb)
  clear OW
  have OW := OW_
  clear OW_
  have OG_ := hide ((unhide OG).up hb)
  clear OG
  have OG := OG_
  clear OG_
  have sz17 := hide hb.size
  have BB_ := hide (below_y (unhide BB) hb)
  clear BB
  have BB := BB_
  clear BB_ hb
  go_wp2_with fail
  refine (unhide CJ _ _ _ _ (unhide OQ) (unhide BB)).mono ?_
  rintro e w20 ⟨mH, tH, rfl, oH, hb⟩
  obtain ⟨amH, cmH, rfl⟩ := g_shape oH.1
  obtain ⟨atH, ctH, rfl⟩ := g_shape oH.2
  have NH := hide (OwnBx.base oH)
  have OH := hide oH
  clear oH
  have A_ := hide ((unhide A).ups hb)
  clear A
  have A := A_
  clear A_
  have W_ := hide ((unhide W).ups hb)
  clear W
  have W := W_
  clear W_
  have G_ := hide ((unhide G).ups hb)
  clear G
  have G := G_
  clear G_
  have OW_ := hide ((unhide OW).up hb)
  clear OW
  have OW := OW_
  clear OW_
  have OG_ := hide ((unhide OG).up hb)
  clear OG
  have OG := OG_
  clear OG_
  have OQ_ := hide ((unhide OQ).up hb)
  clear OQ
  have OQ := OQ_
  clear OQ_
  have sz18 := hide hb.size
  have BB_ := hide (below_y (unhide BB) hb)
  clear BB
  have BB := BB_
  clear BB_ hb
  clear OQ
  obtain ⟨w21, hH⟩ : ∃ X, X = w20.alloc (.cells ([.string b2.name, .int .i64 b2.valid, .int .i64 b2.next, .int .i64 b2.mod, .slice amH b2.mails.length cmH, .slice atH b2.tombs.length ctH, .int .i64 b2.hor] : List Value).toArray 32) := ⟨_, rfl⟩
  have Hx : HasObj w21 w20.heap.size 32 [.string b2.name, .int .i64 b2.valid, .int .i64 b2.next, .int .i64 b2.mod, .slice amH b2.mails.length cmH, .slice atH b2.tombs.length ctH, .int .i64 b2.hor] := by rw [hH]; exact HasObj.new _ _ _
  have hbn : Below w20.heap.size w20 w21 := by rw [hH]; exact (Below.refl _ _).alloc (Nat.le_refl _) _
  have EH := hH.symm
  clear hH
  have A_ := hide ((unhide A).ups hbn)
  clear A
  have A := A_
  clear A_
  have W_ := hide ((unhide W).ups hbn)
  clear W
  have W := W_
  clear W_
  have G_ := hide ((unhide G).ups hbn)
  clear G
  have G := G_
  clear G_
  have OW_ := hide ((unhide OW).up hbn)
  clear OW
  have OW := OW_
  clear OW_
  have OG_ := hide ((unhide OG).up hbn)
  clear OG
  have OG := OG_
  clear OG_
  have OH_ := hide ((unhide OH).up hbn)
  clear OH
  have OH := OH_
  clear OH_
  have sz19 := hide hbn.size
  have BB_ := hide (below_y (unhide BB) hbn)
  clear BB
  have BB := BB_
  clear BB_ hbn
  have H := hide Hx
  clear Hx
  have Hc0 := (unhide H).cell 0 rfl
  have Hc1 := (unhide H).cell 1 rfl
  have Hc2 := (unhide H).cell 2 rfl
  have Hc3 := (unhide H).cell 3 rfl
  have Hc4 := (unhide H).cell 4 rfl
  have Hc5 := (unhide H).cell 5 rfl
  have Hc6 := (unhide H).cell 6 rfl
  have Wc0 := (unhide W).cell 0 rfl
  have Wc1 := (unhide W).cell 1 rfl
  have Wc2 := (unhide W).cell 2 rfl
  have Wc3 := (unhide W).cell 3 rfl
  have Wc4 := (unhide W).cell 4 rfl
  have Wc5 := (unhide W).cell 5 rfl
  have Wc6 := (unhide W).cell 6 rfl
  go_wp2_with fail
  clear Hc0 Hc1 Hc2 Hc3 Hc4 Hc5 Hc6 Wc0 Wc1 Wc2 Wc3 Wc4 Wc5 Wc6
  refine (eqBox_same b2 _ _ _ _ _ _ _ (unhide AL).1 (unhide AL).2 (unhide OH) (unhide OW)).mono ?_
  rintro e w22 ⟨rfl, hb⟩
  have A_ := hide ((unhide A).ups hb)
  clear A
  have A := A_
  clear A_
  have W_ := hide ((unhide W).ups hb)
  clear W
  have W := W_
  clear W_
  have G_ := hide ((unhide G).ups hb)
  clear G
  have G := G_
  clear G_
  have H_ := hide ((unhide H).ups hb)
  clear H
  have H := H_
  clear H_
  have OW_ := hide ((unhide OW).up hb)
  clear OW
  have OW := OW_
  clear OW_
  have OG_ := hide ((unhide OG).up hb)
  clear OG
  have OG := OG_
  clear OG_
  have OH_ := hide ((unhide OH).up hb)
  clear OH
  have OH := OH_
  clear OH_
  have sz20 := hide hb.size
  have BB_ := hide (below_y (unhide BB) hb)
  clear BB
  have BB := BB_
  clear BB_ hb
  clear EH
  have Gc0 := (unhide G).cell 0 rfl
  have Gc1 := (unhide G).cell 1 rfl
  have Gc2 := (unhide G).cell 2 rfl
  have Gc3 := (unhide G).cell 3 rfl
  have Gc4 := (unhide G).cell 4 rfl
  have Gc5 := (unhide G).cell 5 rfl
  have Gc6 := (unhide G).cell 6 rfl
  go_wp2_with fail
  clear Gc0 Gc1 Gc2 Gc3 Gc4 Gc5 Gc6
  refine (heldBox_any b2 _ _ _ 1 _ (unhide AL).1 (unhide AL).2 (by decide) (by decide) (unhide OG)).mono ?_
  rintro e w23 ⟨rfl, hb⟩
  have A_ := hide ((unhide A).ups hb)
  clear A
  have A := A_
  clear A_
  have W_ := hide ((unhide W).ups hb)
  clear W
  have W := W_
  clear W_
  have G_ := hide ((unhide G).ups hb)
  clear G
  have G := G_
  clear G_
  have H_ := hide ((unhide H).ups hb)
  clear H
  have H := H_
  clear H_
  have OW_ := hide ((unhide OW).up hb)
  clear OW
  have OW := OW_
  clear OW_
  have OG_ := hide ((unhide OG).up hb)
  clear OG
  have OG := OG_
  clear OG_
  have OH_ := hide ((unhide OH).up hb)
  clear OH
  have OH := OH_
  clear OH_
  have sz21 := hide hb.size
  have BB_ := hide (below_y (unhide BB) hb)
  clear BB
  have BB := BB_
  clear BB_ hb
  go_wp2
  go_ret
  exact ⟨rfl, unhide BB⟩

theorem FnExactBoxName_walk (s : ByteArray) (w : World) (CI : ∀ (W : World), s.size ≤ 1048576 → Below w.heap.size w W → Calls Try.prog 8 #[.string s] W fun e w' => e = .returned (.bool (nameOkL s.data.toList)) ∧ Below W.heap.size W w') :
    Calls Try.prog 3 #[.string s] w fun e w' => e = .returned (.bool true) ∧ Below w.heap.size w w' := by
  by_cases hs : s.size ≤ 1048576
  · have d : decide ((1048576 : Int) < (s.size : Int)) = false := by rw [decide_eq_false_iff_not]; omega
    have Q := hide (spec_BoxName_any s w hs)
    have CJ := hide (fun W hb => CI W hs hb)
    clear CI
    generalize nameOkL s.data.toList = x at *
    go_enter Try.func3, Try.ntmps3
    go_wp2_with fail
    refine (unhide Q).mono ?_
    rintro e w1 ⟨rfl, hw⟩
    subst w1
    go_wp2_with fail
    refine (unhide CJ _ (Below.refl _ _)).mono ?_
    rintro e w1 ⟨rfl, hb⟩
    have B := hide hb
    clear hb
    go_wp2
    go_ret
    exact ⟨rfl, unhide B⟩
  · have d : decide ((1048576 : Int) < (s.size : Int)) = true := by rw [decide_eq_true_eq]; omega
    go_enter Try.func3, Try.ntmps3
    go_wp2
    go_ret
    exact ⟨rfl, Below.refl _ _⟩

namespace Plain
theorem newV_len (name : ByteArray) (valid : Int) : (newV name valid).1.mails = [] ∧ (newV name valid).1.tombs = [] := by
  unfold newV
  split <;> exact ⟨rfl, rfl⟩
end Plain
set_option maxHeartbeats 16000000 in
set_option maxRecDepth 100000 in
theorem FnExactBoxNew_walk (name : ByteArray) (valid : Int) (w : World)
    (CI : ∀ (W : World), name.size ≤ 1048576 → Below w.heap.size w W → Calls Try.prog 15 #[.string name, .int .i64 valid] W fun e w' => ∃ m' t', e = .returned (.tuple #[boxV (newV name valid).1 m' t', .bool (newV name valid).2]) ∧ OwnBx W.heap.size w' m' t' (newV name valid).1 ∧ Below W.heap.size W w') :
    Calls Try.prog 5 #[.string name, .int .i64 valid] w fun e w' => e = .returned (.bool true) ∧ Below w.heap.size w w' := by
  have BB := hide (Below.refl w.heap.size w)
  have CH := hide CI
  clear CI
  by_cases ht : name.size ≤ 1048576
  rotate_left
  · have d0 : decide ((1048576 : Int) < (name.size : Int)) = true := by rw [decide_eq_true_eq]; omega
    go_enter Try.func5, Try.ntmps5
    go_wp2
    go_ret
    exact ⟨rfl, unhide BB⟩
  have d0 : decide ((1048576 : Int) < (name.size : Int)) = false := by rw [decide_eq_false_iff_not]; omega
  have NL := newV_len name valid
  have SA : Hid (∀ W : World, Calls Try.prog 14 #[.string name, .int .i64 valid] W fun e w' => ∃ m' t', e = .returned (.tuple #[boxV (newV name valid).1 m' t', .bool (newV name valid).2]) ∧ OwnBx W.heap.size w' m' t' (newV name valid).1 ∧ Below W.heap.size W w') := fun W => (spec_BoxNew_any name valid W ht).mono fun e w' ⟨h1, h2⟩ => ⟨_, _, h1, ⟨by unfold OwnMl; rw [NL.1]; exact World.ownsRow_nil _ _ _ _, by unfold OwnTb; rw [NL.2]; exact World.ownsRow_nil _ _ _ _⟩, h2⟩
  have CJ := hide (fun (W : World) (hb : Below w.heap.size w W) => unhide CH W ht hb)
  clear CH
  generalize newV name valid = r at *
  obtain ⟨b2, u⟩ := r
  simp only at SA CJ NL
  have AL : Hid (b2.mails.length ≤ 1048576 ∧ b2.tombs.length ≤ 1048576) := by show b2.mails.length ≤ 1048576 ∧ b2.tombs.length ≤ 1048576; rw [NL.1, NL.2]; decide
  clear NL
  go_enter Try.func5, Try.ntmps5
  go_wp2_with fail
  refine (unhide SA _).mono ?_
  rintro e w1 ⟨mW, tW, rfl, oW, hb⟩
  obtain ⟨amW, cmW, rfl⟩ := g_shape oW.1
  obtain ⟨atW, ctW, rfl⟩ := g_shape oW.2
  have NW := hide (OwnBx.base oW)
  have OW := hide oW
  clear oW
  have sz1 := hide hb.size
  have BB_ := hide (below_y (unhide BB) hb)
  clear BB
  have BB := BB_
  clear BB_ hb
  obtain ⟨w2, hW⟩ : ∃ X, X = w1.alloc (.cells ([.string b2.name, .int .i64 b2.valid, .int .i64 b2.next, .int .i64 b2.mod, .slice amW b2.mails.length cmW, .slice atW b2.tombs.length ctW, .int .i64 b2.hor] : List Value).toArray 32) := ⟨_, rfl⟩
  have Wx : HasObj w2 w1.heap.size 32 [.string b2.name, .int .i64 b2.valid, .int .i64 b2.next, .int .i64 b2.mod, .slice amW b2.mails.length cmW, .slice atW b2.tombs.length ctW, .int .i64 b2.hor] := by rw [hW]; exact HasObj.new _ _ _
  have hbn : Below w1.heap.size w1 w2 := by rw [hW]; exact (Below.refl _ _).alloc (Nat.le_refl _) _
  have EW := hW.symm
  clear hW
  have OW_ := hide ((unhide OW).up hbn)
  clear OW
  have OW := OW_
  clear OW_
  have sz2 := hide hbn.size
  have BB_ := hide (below_y (unhide BB) hbn)
  clear BB
  have BB := BB_
  clear BB_ hbn
  have W := hide Wx
  clear Wx
  go_wp2_with fail
  refine (unhide CJ _ (unhide BB)).mono ?_
  rintro e w3 ⟨mG, tG, rfl, oG, hb⟩
  obtain ⟨amG, cmG, rfl⟩ := g_shape oG.1
  obtain ⟨atG, ctG, rfl⟩ := g_shape oG.2
  have NG := hide (OwnBx.base oG)
  have OG := hide oG
  clear oG
  have W_ := hide ((unhide W).ups hb)
  clear W
  have W := W_
  clear W_
  have OW_ := hide ((unhide OW).up hb)
  clear OW
  have OW := OW_
  clear OW_
  have sz3 := hide hb.size
  have BB_ := hide (below_y (unhide BB) hb)
  clear BB
  have BB := BB_
  clear BB_ hb
  clear EW
  obtain ⟨w4, hG⟩ : ∃ X, X = w3.alloc (.cells ([.string b2.name, .int .i64 b2.valid, .int .i64 b2.next, .int .i64 b2.mod, .slice amG b2.mails.length cmG, .slice atG b2.tombs.length ctG, .int .i64 b2.hor] : List Value).toArray 32) := ⟨_, rfl⟩
  have Gx : HasObj w4 w3.heap.size 32 [.string b2.name, .int .i64 b2.valid, .int .i64 b2.next, .int .i64 b2.mod, .slice amG b2.mails.length cmG, .slice atG b2.tombs.length ctG, .int .i64 b2.hor] := by rw [hG]; exact HasObj.new _ _ _
  have hbn : Below w3.heap.size w3 w4 := by rw [hG]; exact (Below.refl _ _).alloc (Nat.le_refl _) _
  have EG := hG.symm
  clear hG
  have W_ := hide ((unhide W).ups hbn)
  clear W
  have W := W_
  clear W_
  have OW_ := hide ((unhide OW).up hbn)
  clear OW
  have OW := OW_
  clear OW_
  have OG_ := hide ((unhide OG).up hbn)
  clear OG
  have OG := OG_
  clear OG_
  have sz4 := hide hbn.size
  have BB_ := hide (below_y (unhide BB) hbn)
  clear BB
  have BB := BB_
  clear BB_ hbn
  have G := hide Gx
  clear Gx
  have Gc0 := (unhide G).cell 0 rfl
  have Gc1 := (unhide G).cell 1 rfl
  have Gc2 := (unhide G).cell 2 rfl
  have Gc3 := (unhide G).cell 3 rfl
  have Gc4 := (unhide G).cell 4 rfl
  have Gc5 := (unhide G).cell 5 rfl
  have Gc6 := (unhide G).cell 6 rfl
  have Wc0 := (unhide W).cell 0 rfl
  have Wc1 := (unhide W).cell 1 rfl
  have Wc2 := (unhide W).cell 2 rfl
  have Wc3 := (unhide W).cell 3 rfl
  have Wc4 := (unhide W).cell 4 rfl
  have Wc5 := (unhide W).cell 5 rfl
  have Wc6 := (unhide W).cell 6 rfl
  go_wp2_with fail
  clear Gc0 Gc1 Gc2 Gc3 Gc4 Gc5 Gc6 Wc0 Wc1 Wc2 Wc3 Wc4 Wc5 Wc6
  refine (eqBox_same b2 _ _ _ _ _ _ _ (unhide AL).1 (unhide AL).2 (unhide OG) (unhide OW)).mono ?_
  rintro e w5 ⟨rfl, hb⟩
  have W_ := hide ((unhide W).ups hb)
  clear W
  have W := W_
  clear W_
  have G_ := hide ((unhide G).ups hb)
  clear G
  have G := G_
  clear G_
  have OW_ := hide ((unhide OW).up hb)
  clear OW
  have OW := OW_
  clear OW_
  have OG_ := hide ((unhide OG).up hb)
  clear OG
  have OG := OG_
  clear OG_
  have sz5 := hide hb.size
  have BB_ := hide (below_y (unhide BB) hb)
  clear BB
  have BB := BB_
  clear BB_ hb
  clear EG
  have Gc0 := (unhide G).cell 0 rfl
  have Gc1 := (unhide G).cell 1 rfl
  have Gc2 := (unhide G).cell 2 rfl
  have Gc3 := (unhide G).cell 3 rfl
  have Gc4 := (unhide G).cell 4 rfl
  have Gc5 := (unhide G).cell 5 rfl
  have Gc6 := (unhide G).cell 6 rfl
  go_wp2_with fail
  clear Gc0 Gc1 Gc2 Gc3 Gc4 Gc5 Gc6
  refine (markBox_any b2 _ _ _ 1 _ (unhide AL).1 (unhide AL).2 (by decide) (by decide) (unhide OG)).mono ?_
  rintro e w6 ⟨rfl, om, hg⟩
  have W_ := hide (hg.obj (unhide W) (fun hh => by rcases hh with hh | hh; exact (unhide W).not_row (by decide) (unhide OG).1 hh; exact (unhide W).not_row (by decide) (unhide OG).2 hh))
  have G_ := hide (hg.obj (unhide G) (fun hh => by rcases hh with hh | hh; exact (unhide G).not_row (by decide) (unhide OG).1 hh; exact (unhide G).not_row (by decide) (unhide OG).2 hh))
  have OW_ := hide ((unhide OW).but hg (fun g hg1 hg2 => by have q1 := unhide NW g hg1; have q2 := unhide NG g hg2; have z1 := unhide sz1; have z2 := unhide sz2; have z3 := unhide sz3; have z4 := unhide sz4; have z5 := unhide sz5; omega))
  have BB_ : Hid (Below w.heap.size w w6) := (unhide BB).trans (hg.toBelow (unhide BB).size (fun g hh => by have q2 := unhide NG g hh; have z1 := unhide sz1; have z2 := unhide sz2; have z3 := unhide sz3; have z4 := unhide sz4; have z5 := unhide sz5; omega))
  have sz6 := hide hg.size
  clear W
  have W := W_
  clear W_
  clear G
  have G := G_
  clear G_
  clear OW
  have OW := OW_
  clear OW_
  clear BB
  have BB := BB_
  clear BB_
  clear OG
  have OG := hide om
  clear om hg
  have j2 : ¬ (1 : Int) + (b2.mails.length : Int) * 4 + (b2.tombs.length : Int) * 2 < 0 := by omega
  have Gc0 := (unhide G).cell 0 rfl
  have Gc1 := (unhide G).cell 1 rfl
  have Gc2 := (unhide G).cell 2 rfl
  have Gc3 := (unhide G).cell 3 rfl
  have Gc4 := (unhide G).cell 4 rfl
  have Gc5 := (unhide G).cell 5 rfl
  have Gc6 := (unhide G).cell 6 rfl
  go_wp2_with fail
  clear Gc0 Gc1 Gc2 Gc3 Gc4 Gc5 Gc6
  refine (heldBox_any b2 _ _ _ 1 _ (unhide AL).1 (unhide AL).2 (by decide) (by decide) (unhide OG)).mono ?_
  rintro e w7 ⟨rfl, hb⟩
  have W_ := hide ((unhide W).ups hb)
  clear W
  have W := W_
  clear W_
  have G_ := hide ((unhide G).ups hb)
  clear G
  have G := G_
  clear G_
  have OW_ := hide ((unhide OW).up hb)
  clear OW
  have OW := OW_
  clear OW_
  have OG_ := hide ((unhide OG).up hb)
  clear OG
  have OG := OG_
  clear OG_
  have sz7 := hide hb.size
  have BB_ := hide (below_y (unhide BB) hb)
  clear BB
  have BB := BB_
  clear BB_ hb
  go_wp2_with fail
  refine (unhide CJ _ (unhide BB)).mono ?_
  rintro e w8 ⟨mH, tH, rfl, oH, hb⟩
  obtain ⟨amH, cmH, rfl⟩ := g_shape oH.1
  obtain ⟨atH, ctH, rfl⟩ := g_shape oH.2
  have NH := hide (OwnBx.base oH)
  have OH := hide oH
  clear oH
  have W_ := hide ((unhide W).ups hb)
  clear W
  have W := W_
  clear W_
  have G_ := hide ((unhide G).ups hb)
  clear G
  have G := G_
  clear G_
  have OW_ := hide ((unhide OW).up hb)
  clear OW
  have OW := OW_
  clear OW_
  have OG_ := hide ((unhide OG).up hb)
  clear OG
  have OG := OG_
  clear OG_
  have sz8 := hide hb.size
  have BB_ := hide (below_y (unhide BB) hb)
  clear BB
  have BB := BB_
  clear BB_ hb
  obtain ⟨w9, hH⟩ : ∃ X, X = w8.alloc (.cells ([.string b2.name, .int .i64 b2.valid, .int .i64 b2.next, .int .i64 b2.mod, .slice amH b2.mails.length cmH, .slice atH b2.tombs.length ctH, .int .i64 b2.hor] : List Value).toArray 32) := ⟨_, rfl⟩
  have Hx : HasObj w9 w8.heap.size 32 [.string b2.name, .int .i64 b2.valid, .int .i64 b2.next, .int .i64 b2.mod, .slice amH b2.mails.length cmH, .slice atH b2.tombs.length ctH, .int .i64 b2.hor] := by rw [hH]; exact HasObj.new _ _ _
  have hbn : Below w8.heap.size w8 w9 := by rw [hH]; exact (Below.refl _ _).alloc (Nat.le_refl _) _
  have EH := hH.symm
  clear hH
  have W_ := hide ((unhide W).ups hbn)
  clear W
  have W := W_
  clear W_
  have G_ := hide ((unhide G).ups hbn)
  clear G
  have G := G_
  clear G_
  have OW_ := hide ((unhide OW).up hbn)
  clear OW
  have OW := OW_
  clear OW_
  have OG_ := hide ((unhide OG).up hbn)
  clear OG
  have OG := OG_
  clear OG_
  have OH_ := hide ((unhide OH).up hbn)
  clear OH
  have OH := OH_
  clear OH_
  have sz9 := hide hbn.size
  have BB_ := hide (below_y (unhide BB) hbn)
  clear BB
  have BB := BB_
  clear BB_ hbn
  have H := hide Hx
  clear Hx
  have Hc0 := (unhide H).cell 0 rfl
  have Hc1 := (unhide H).cell 1 rfl
  have Hc2 := (unhide H).cell 2 rfl
  have Hc3 := (unhide H).cell 3 rfl
  have Hc4 := (unhide H).cell 4 rfl
  have Hc5 := (unhide H).cell 5 rfl
  have Hc6 := (unhide H).cell 6 rfl
  have Wc0 := (unhide W).cell 0 rfl
  have Wc1 := (unhide W).cell 1 rfl
  have Wc2 := (unhide W).cell 2 rfl
  have Wc3 := (unhide W).cell 3 rfl
  have Wc4 := (unhide W).cell 4 rfl
  have Wc5 := (unhide W).cell 5 rfl
  have Wc6 := (unhide W).cell 6 rfl
  go_wp2_with fail
  clear Hc0 Hc1 Hc2 Hc3 Hc4 Hc5 Hc6 Wc0 Wc1 Wc2 Wc3 Wc4 Wc5 Wc6
  refine (eqBox_same b2 _ _ _ _ _ _ _ (unhide AL).1 (unhide AL).2 (unhide OH) (unhide OW)).mono ?_
  rintro e w10 ⟨rfl, hb⟩
  have W_ := hide ((unhide W).ups hb)
  clear W
  have W := W_
  clear W_
  have G_ := hide ((unhide G).ups hb)
  clear G
  have G := G_
  clear G_
  have H_ := hide ((unhide H).ups hb)
  clear H
  have H := H_
  clear H_
  have OW_ := hide ((unhide OW).up hb)
  clear OW
  have OW := OW_
  clear OW_
  have OG_ := hide ((unhide OG).up hb)
  clear OG
  have OG := OG_
  clear OG_
  have OH_ := hide ((unhide OH).up hb)
  clear OH
  have OH := OH_
  clear OH_
  have sz10 := hide hb.size
  have BB_ := hide (below_y (unhide BB) hb)
  clear BB
  have BB := BB_
  clear BB_ hb
  clear EH
  have Gc0 := (unhide G).cell 0 rfl
  have Gc1 := (unhide G).cell 1 rfl
  have Gc2 := (unhide G).cell 2 rfl
  have Gc3 := (unhide G).cell 3 rfl
  have Gc4 := (unhide G).cell 4 rfl
  have Gc5 := (unhide G).cell 5 rfl
  have Gc6 := (unhide G).cell 6 rfl
  go_wp2_with fail
  clear Gc0 Gc1 Gc2 Gc3 Gc4 Gc5 Gc6
  refine (heldBox_any b2 _ _ _ 1 _ (unhide AL).1 (unhide AL).2 (by decide) (by decide) (unhide OG)).mono ?_
  rintro e w11 ⟨rfl, hb⟩
  have W_ := hide ((unhide W).ups hb)
  clear W
  have W := W_
  clear W_
  have G_ := hide ((unhide G).ups hb)
  clear G
  have G := G_
  clear G_
  have H_ := hide ((unhide H).ups hb)
  clear H
  have H := H_
  clear H_
  have OW_ := hide ((unhide OW).up hb)
  clear OW
  have OW := OW_
  clear OW_
  have OG_ := hide ((unhide OG).up hb)
  clear OG
  have OG := OG_
  clear OG_
  have OH_ := hide ((unhide OH).up hb)
  clear OH
  have OH := OH_
  clear OH_
  have sz11 := hide hb.size
  have BB_ := hide (below_y (unhide BB) hb)
  clear BB
  have BB := BB_
  clear BB_ hb
  go_wp2
  go_ret
  exact ⟨rfl, unhide BB⟩
end Go.Proofs.Ytkjlponggednoab
