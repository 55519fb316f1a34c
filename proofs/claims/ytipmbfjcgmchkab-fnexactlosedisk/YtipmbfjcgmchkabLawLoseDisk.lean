/-
  FnExactLoseDisk: at every disk and every list of numbers the program's LoseDisk answers as the specification's, every field, writes into no argument, and its answer owns its memory: the law returns true, and the arguments read as they did; no condition (what is of over 2^20 values and bytes is passed by the law itself).
-/
import Derived.Test.YtipmbfjcgmchkabRows
import Derived.Test.YtipmbfjcgmchkabLoseS
import Derived.Test.YtipmbfjcgmchkabLedger
import Derived.Test.YtipmbfjcgmchkabOpenDisk
import Derived.WalkKit
import Derived.ProofKit
import Derived.OpenShut
import Derived.ShutString
import Derived.ChangeOld
import Derived.Below
import Derived.Carry
namespace Go.Proofs.Ytipmbfjcgmchkab.fnExactLoseDisk
open Go.ChangeShapes Go.WideShapes Go.ChangeAt Go.RowKit
open Go.ChangeMaps (open_string shut_string)
open Plain
set_option linter.unusedVariables false

theorem own : ownKnob Try.prog.godebug = none := by kernel_rfl
theorem laidOut : laidOutB Try.prog = true := by kernel_rfl

theorem cell_alloc {w : World} {p : Addr} {v : Value} (h : w.cell? p = some v) (o : Obj) : (w.alloc o).cell? p = some v := (World.cell?_alloc_lt _ _ _ (World.block_lt_of_cell? w p h)).trans h
set_option maxHeartbeats 4000000 in
set_option maxRecDepth 100000 in
theorem walk (a0 : Option Addr) (cap0 : Nat) (l0 : List Fl) (a1 : Option Addr) (cap1 : Nat) (l1 : List Int) (w : World) (m0 : l0.length ≤ maxLen) (h0 : ArgF w.heap.size w a0 l0) (m1 : l1.length ≤ maxLen) (h1 : ArgI w.heap.size w a1 l1) :
    Calls Try.prog 3 #[.agg #[.slice a0 l0.length cap0], .slice a1 l1.length cap1] w fun e w' => e = .returned (.bool true) ∧ Below w.heap.size w w' := by
  unfold maxLen at m1
  by_cases hnm : l1.length ≤ 1048576
  · have HA := hide h0
    have HI := hide h1
    clear h0 h1
    go_enter Try.func3, Try.ntmps3
    go_wp2_with fail
    have hb0 := (Below.refl w.heap.size w).alloc (Nat.le_refl _) (.cells #[.slice a0 l0.length cap0] 24)
    have e0 : (w.alloc (.cells #[.slice a0 l0.length cap0] 24)).cell? ⟨w.heap.size, 0, none⟩ = some (.slice a0 l0.length cap0) := by go_simp
    have hsz : w.heap.size < (w.alloc (.cells #[.slice a0 l0.length cap0] 24)).heap.size := by simp
    generalize w.alloc (.cells #[.slice a0 l0.length cap0] 24) = W at *
    refine (szDisk_any a0 l0.length cap0 l0 W rfl m0 ((unhide HA).up hb0)).mono ?_
    rintro e w1 ⟨⟨m, rfl, hmm⟩, hb1⟩
    have E := hide ((hb1.cell (p := ⟨w.heap.size, 0, none⟩) hsz).trans e0)
    have BB := hide (hb0.trans (hb1.mono (by omega)))
    have y_w1 : w.heap.size < w1.heap.size := by have := hb1.size; omega
    clear e0 hb0 hb1 hsz
    rcases hmm with rfl | ⟨q, rfl, hq, hsm⟩
    · go_wp2
      go_ret
      exact ⟨rfl, unhide BB⟩
    have HS := hide hsm
    have hs0 := hsm.1
    clear hsm
    have q_E := unhide E
    go_wp2_with fail
    clear q_E
    refine (toDisk_any a0 cap0 l0 w1 hs0 ((unhide HA).up (unhide BB))).mono ?_
    rintro e w2 ⟨v2, rfl, own2, hb2⟩
    replace E := hide (cell_up (w := w1) (unhide E) hb2)
    have z_w2 : w1.heap.size ≤ w2.heap.size := hb2.size
    replace BB := hide ((unhide BB).trans (hb2.mono (by show w.heap.size ≤ w1.heap.size; omega)))
    clear hb2
    have y_w2 : w.heap.size < w2.heap.size := by omega
    have O2 := hide own2
    have R2 := hide (unhide O2).range
    clear own2
    go_wp2_with fail
    refine (toIntS_any a1 cap1 l1 w2 hnm ((unhide HI).up (unhide BB))).mono ?_
    rintro e w3 ⟨u3, rfl, own3, hb3⟩
    replace E := hide (cell_up (w := w2) (unhide E) hb3)
    replace O2 := hide (OwnF.up (w := w2) (unhide O2) hb3)
    have z_w3 : w2.heap.size ≤ w3.heap.size := hb3.size
    replace BB := hide ((unhide BB).trans (hb3.mono (by show w.heap.size ≤ w2.heap.size; omega)))
    clear hb3
    have y_w3 : w.heap.size < w3.heap.size := by omega
    have O3 := hide own3
    have R3 := hide (unhide O3).range
    clear own3
    go_wp2_with fail
    refine (spec_LoseDisk_any l0 l1 v2 u3 _ _ w3 (unhide HS) (unhide O2) hnm (unhide O3)).mono ?_
    rintro e w4 ⟨v4, rfl, own4, hb4⟩
    clear O2 O3
    replace E := hide (cell_up (w := w3) (unhide E) hb4)
    have z_w4 : w3.heap.size ≤ w4.heap.size := hb4.size
    replace BB := hide ((unhide BB).trans (hb4.mono (by show w.heap.size ≤ w3.heap.size; omega)))
    clear hb4
    have y_w4 : w.heap.size < w4.heap.size := by omega
    have O4 := hide own4
    have R4 := hide (unhide O4).range
    clear own4
    have CI := hide (fun v u B B2 wx h1 h2 => impl_LoseDisk_any l0 l1 v u B B2 wx (unhide HS) h1 hnm h2)
    have hal : (lostL l0 l1).length ≤ 1048576 := by unfold lostL; split <;> simp [loseL, loseTo_length]; omega
    generalize lostL l0 l1 = ans at O4 CI hal
    generalize diskB l0 = d at CI ⊢
    obtain ⟨b4, c4, rfl, _⟩ := OwnF.shape0 (unhide O4)
    have q_E := fun o => cell_alloc (unhide E) o
    go_wp2_with fail
    clear q_E
    have hx : (w4.alloc (.cells #[.slice b4 ans.length c4] 29)).cell? ⟨w4.heap.size, 0, none⟩ = some (.slice b4 ans.length c4) := by go_simp
    have hbx := (Below.refl w4.heap.size w4).alloc (Nat.le_refl _) (.cells #[.slice b4 ans.length c4] 29)
    have hzx : (w4.alloc (.cells #[.slice b4 ans.length c4] 29)).heap.size = w4.heap.size + 1 := by simp
    obtain ⟨w5, hWx⟩ : ∃ W, W = w4.alloc (.cells #[.slice b4 ans.length c4] 29) := ⟨_, rfl⟩
    rw [← hWx] at hx hbx hzx ⊢
    clear hWx
    replace E := hide (cell_up (w := w4) (unhide E) hbx)
    replace O4 := hide (OwnF.up (w := w4) (unhide O4) hbx)
    have z_w5 : w4.heap.size ≤ w5.heap.size := hbx.size
    replace BB := hide ((unhide BB).trans (hbx.mono (by show w.heap.size ≤ w4.heap.size; omega)))
    clear hbx
    have y_w5 : w.heap.size < w5.heap.size := by omega
    have zz_w5 := hzx
    clear hzx
    have X4 := hide hx
    clear hx
    refine (toDisk_any a0 cap0 l0 w5 hs0 ((unhide HA).up (unhide BB))).mono ?_
    rintro e w6 ⟨v6, rfl, own6, hb6⟩
    replace E := hide (cell_up (w := w5) (unhide E) hb6)
    replace O4 := hide (OwnF.up (w := w5) (unhide O4) hb6)
    replace X4 := hide (cell_up (w := w5) (unhide X4) hb6)
    have z_w6 : w5.heap.size ≤ w6.heap.size := hb6.size
    replace BB := hide ((unhide BB).trans (hb6.mono (by show w.heap.size ≤ w5.heap.size; omega)))
    clear hb6
    have y_w6 : w.heap.size < w6.heap.size := by omega
    have O6 := hide own6
    have R6 := hide (unhide O6).range
    clear own6
    obtain ⟨b6, c6, rfl, _⟩ := OwnF.shape0 (unhide O6)
    go_wp2_with fail
    have hx : (w6.alloc (.cells #[.slice b6 l0.length c6] 29)).cell? ⟨w6.heap.size, 0, none⟩ = some (.slice b6 l0.length c6) := by go_simp
    have hbx := (Below.refl w6.heap.size w6).alloc (Nat.le_refl _) (.cells #[.slice b6 l0.length c6] 29)
    have hzx : (w6.alloc (.cells #[.slice b6 l0.length c6] 29)).heap.size = w6.heap.size + 1 := by simp
    obtain ⟨w7, hWx⟩ : ∃ W, W = w6.alloc (.cells #[.slice b6 l0.length c6] 29) := ⟨_, rfl⟩
    rw [← hWx] at hx hbx hzx ⊢
    clear hWx
    replace E := hide (cell_up (w := w6) (unhide E) hbx)
    replace O4 := hide (OwnF.up (w := w6) (unhide O4) hbx)
    replace X4 := hide (cell_up (w := w6) (unhide X4) hbx)
    replace O6 := hide (OwnF.up (w := w6) (unhide O6) hbx)
    have z_w7 : w6.heap.size ≤ w7.heap.size := hbx.size
    replace BB := hide ((unhide BB).trans (hbx.mono (by show w.heap.size ≤ w6.heap.size; omega)))
    clear hbx
    have y_w7 : w.heap.size < w7.heap.size := by omega
    have zz_w7 := hzx
    clear hzx
    have X6 := hide hx
    clear hx
    refine (toIntS_any a1 cap1 l1 w7 hnm ((unhide HI).up (unhide BB))).mono ?_
    rintro e w8 ⟨u8, rfl, own8, hb8⟩
    replace E := hide (cell_up (w := w7) (unhide E) hb8)
    replace O4 := hide (OwnF.up (w := w7) (unhide O4) hb8)
    replace X4 := hide (cell_up (w := w7) (unhide X4) hb8)
    replace O6 := hide (OwnF.up (w := w7) (unhide O6) hb8)
    replace X6 := hide (cell_up (w := w7) (unhide X6) hb8)
    have z_w8 : w7.heap.size ≤ w8.heap.size := hb8.size
    replace BB := hide ((unhide BB).trans (hb8.mono (by show w.heap.size ≤ w7.heap.size; omega)))
    clear hb8
    have y_w8 : w.heap.size < w8.heap.size := by omega
    have O8 := hide own8
    have R8 := hide (unhide O8).range
    clear own8
    have q_X6 := unhide X6
    go_wp2_with fail
    clear q_X6
    refine (unhide CI _ u8 _ _ w8 (unhide O6) (unhide O8)).mono ?_
    rintro e w9 ⟨v9, rfl, own9, hb9⟩
    replace E := hide (cell_up (w := w8) (unhide E) hb9)
    replace O4 := hide (OwnF.up (w := w8) (unhide O4) hb9)
    replace X4 := hide (cell_up (w := w8) (unhide X4) hb9)
    replace O6 := hide (OwnF.up (w := w8) (unhide O6) hb9)
    replace X6 := hide (cell_up (w := w8) (unhide X6) hb9)
    replace O8 := hide (OwnI.up (w := w8) (unhide O8) hb9)
    have z_w9 : w8.heap.size ≤ w9.heap.size := hb9.size
    replace BB := hide ((unhide BB).trans (hb9.mono (by show w.heap.size ≤ w8.heap.size; omega)))
    clear hb9
    have y_w9 : w.heap.size < w9.heap.size := by omega
    have O9 := hide own9
    have R9 := hide (unhide O9).range
    clear own9
    obtain ⟨b9, c9, rfl, _⟩ := OwnF.shape0 (unhide O9)
    have q_X4 := fun o => cell_alloc (unhide X4) o
    go_wp2_with fail
    clear q_X4
    have hx : (w9.alloc (.cells #[.slice b9 ans.length c9] 29)).cell? ⟨w9.heap.size, 0, none⟩ = some (.slice b9 ans.length c9) := by go_simp
    have hbx := (Below.refl w9.heap.size w9).alloc (Nat.le_refl _) (.cells #[.slice b9 ans.length c9] 29)
    have hzx : (w9.alloc (.cells #[.slice b9 ans.length c9] 29)).heap.size = w9.heap.size + 1 := by simp
    obtain ⟨w10, hWx⟩ : ∃ W, W = w9.alloc (.cells #[.slice b9 ans.length c9] 29) := ⟨_, rfl⟩
    rw [← hWx] at hx hbx hzx ⊢
    clear hWx
    replace E := hide (cell_up (w := w9) (unhide E) hbx)
    replace O4 := hide (OwnF.up (w := w9) (unhide O4) hbx)
    replace X4 := hide (cell_up (w := w9) (unhide X4) hbx)
    replace O6 := hide (OwnF.up (w := w9) (unhide O6) hbx)
    replace X6 := hide (cell_up (w := w9) (unhide X6) hbx)
    replace O8 := hide (OwnI.up (w := w9) (unhide O8) hbx)
    replace O9 := hide (OwnF.up (w := w9) (unhide O9) hbx)
    have z_w10 : w9.heap.size ≤ w10.heap.size := hbx.size
    replace BB := hide ((unhide BB).trans (hbx.mono (by show w.heap.size ≤ w9.heap.size; omega)))
    clear hbx
    have y_w10 : w.heap.size < w10.heap.size := by omega
    have zz_w10 := hzx
    clear hzx
    have X9 := hide hx
    clear hx
    refine (eqDisk_same ans _ _ _ _ w10 hal (unhide O9) (unhide O4)).mono ?_
    rintro e w11 ⟨rfl, hb11⟩
    replace E := hide (cell_up (w := w10) (unhide E) hb11)
    replace O4 := hide (OwnF.up (w := w10) (unhide O4) hb11)
    replace X4 := hide (cell_up (w := w10) (unhide X4) hb11)
    replace O6 := hide (OwnF.up (w := w10) (unhide O6) hb11)
    replace X6 := hide (cell_up (w := w10) (unhide X6) hb11)
    replace O8 := hide (OwnI.up (w := w10) (unhide O8) hb11)
    replace O9 := hide (OwnF.up (w := w10) (unhide O9) hb11)
    replace X9 := hide (cell_up (w := w10) (unhide X9) hb11)
    have z_w11 : w10.heap.size ≤ w11.heap.size := hb11.size
    replace BB := hide ((unhide BB).trans (hb11.mono (by show w.heap.size ≤ w10.heap.size; omega)))
    clear hb11
    have y_w11 : w.heap.size < w11.heap.size := by omega
    go_wp2
    have s8 := unhide X6
    have sE := unhide E
    refine wp_region_held_drew (S := fun w' => w'.cell? ⟨w6.heap.size, 0, none⟩ = some (.slice b6 l0.length c6) ∧ w'.cell? ⟨w.heap.size, 0, none⟩ = some (.slice a0 l0.length cap0)) (by kernel_rfl) (⟨s8, sE⟩) (fun hHeld => ?_)
    refine takeVal 0 (some 52) ?_ rfl (by kernel_rfl) (by kernel_rfl) (by kernel_rfl) rfl (fun _ _ _ h => h) (by rfl) (by assumption) ?_ ?_
    rotate_left
    · (intro w hSw; (try dsimp only at hSw); go_simp <;> with_reducible rfl)
    simp only [Act.put, List.setIfInBounds_toArray, List.set_cons_zero, List.set_cons_succ]
    refine takeVal 1 (some 53) ?_ rfl (by kernel_rfl) (by kernel_rfl) (by kernel_rfl) rfl (fun _ _ _ h => h) (by rfl) (by assumption) ?_ ?_
    rotate_left
    · (intro w hSw; (try dsimp only at hSw); go_simp <;> with_reducible rfl)
    simp only [Act.put, List.setIfInBounds_toArray, List.set_cons_zero, List.set_cons_succ]
    refine wpAnyH_ready (rs := [2]) (by kernel_rfl) (by simp) ?_
    refine AllReadyH.cons rfl (fun K hK => ?_) AllReadyH.nil
    go_simp
    refine (toDisk_any a0 cap0 l0 w11.drew hs0 ((unhide HA).up (unhide BB).drew)).mono ?_
    rintro e w12 ⟨v12, rfl, own12, hb12⟩
    go_wp2_with fail
    refine hK.out _ _ (⟨cell_up (w := w11.drew) s8 hb12, cell_up (w := w11.drew) sE hb12⟩) (fun hHeld2 => ?_)
    clear hK K hHeld
    have hHeld := hHeld2; clear hHeld2
    try simp only [Act.put, List.setIfInBounds_toArray, List.set_cons_zero, List.set_cons_succ]
    refine wpAnyH_ready (rs := [3]) (by kernel_rfl) (by simp) ?_
    refine AllReadyH.cons rfl (fun K hK => ?_) AllReadyH.nil
    go_simp
    refine (eqDisk_same l0 _ v12 _ _ w12 hs0 (OwnF.up (w := w11.drew) (unhide O6) hb12) own12).mono ?_
    rintro e w13 ⟨rfl, hb13⟩
    go_wp2_with fail
    refine hK.out _ _ (⟨cell_up hHeld.1 hb13, cell_up hHeld.2 hb13⟩) (fun hHeld2 => ?_)
    clear hK K hHeld
    have hHeld := hHeld2; clear hHeld2
    try simp only [Act.put, List.setIfInBounds_toArray, List.set_cons_zero, List.set_cons_succ]
    refine takeVal 4 (some 56) ?_ rfl (by kernel_rfl) (by kernel_rfl) (by kernel_rfl) rfl (fun _ _ _ h => h) (by rfl) (by assumption) ?_ ?_
    rotate_left
    · (intro w hSw; (try dsimp only at hSw); go_simp <;> with_reducible rfl)
    simp only [Act.put, List.setIfInBounds_toArray, List.set_cons_zero, List.set_cons_succ]
    refine wpAnyH_done (by kernel_rfl) ?_ _
    clear own12 s8 sE hHeld
    replace E := hide (cell_up (w := w11.drew) (unhide E) hb12)
    replace O4 := hide (OwnF.up (w := w11.drew) (unhide O4) hb12)
    replace X4 := hide (cell_up (w := w11.drew) (unhide X4) hb12)
    replace O6 := hide (OwnF.up (w := w11.drew) (unhide O6) hb12)
    replace X6 := hide (cell_up (w := w11.drew) (unhide X6) hb12)
    replace O8 := hide (OwnI.up (w := w11.drew) (unhide O8) hb12)
    replace O9 := hide (OwnF.up (w := w11.drew) (unhide O9) hb12)
    replace X9 := hide (cell_up (w := w11.drew) (unhide X9) hb12)
    have z_w12 : w11.heap.size ≤ w12.heap.size := hb12.size
    replace BB := hide ((unhide BB).drew.trans (hb12.mono (by show w.heap.size ≤ w11.heap.size; omega)))
    clear hb12
    have y_w12 : w.heap.size < w12.heap.size := by omega
    replace E := hide (cell_up (w := w12) (unhide E) hb13)
    replace O4 := hide (OwnF.up (w := w12) (unhide O4) hb13)
    replace X4 := hide (cell_up (w := w12) (unhide X4) hb13)
    replace O6 := hide (OwnF.up (w := w12) (unhide O6) hb13)
    replace X6 := hide (cell_up (w := w12) (unhide X6) hb13)
    replace O8 := hide (OwnI.up (w := w12) (unhide O8) hb13)
    replace O9 := hide (OwnF.up (w := w12) (unhide O9) hb13)
    replace X9 := hide (cell_up (w := w12) (unhide X9) hb13)
    have z_w13 : w12.heap.size ≤ w13.heap.size := hb13.size
    replace BB := hide ((unhide BB).trans (hb13.mono (by show w.heap.size ≤ w12.heap.size; omega)))
    clear hb13
    have y_w13 : w.heap.size < w13.heap.size := by omega
    go_wp2_with fail
    refine (toIntS_any a1 cap1 l1 w13 hnm ((unhide HI).up (unhide BB))).mono ?_
    rintro e w14 ⟨u14, rfl, own14, hb14⟩
    replace E := hide (cell_up (w := w13) (unhide E) hb14)
    replace O4 := hide (OwnF.up (w := w13) (unhide O4) hb14)
    replace X4 := hide (cell_up (w := w13) (unhide X4) hb14)
    replace O6 := hide (OwnF.up (w := w13) (unhide O6) hb14)
    replace X6 := hide (cell_up (w := w13) (unhide X6) hb14)
    replace O8 := hide (OwnI.up (w := w13) (unhide O8) hb14)
    replace O9 := hide (OwnF.up (w := w13) (unhide O9) hb14)
    replace X9 := hide (cell_up (w := w13) (unhide X9) hb14)
    have z_w14 : w13.heap.size ≤ w14.heap.size := hb14.size
    replace BB := hide ((unhide BB).trans (hb14.mono (by show w.heap.size ≤ w13.heap.size; omega)))
    clear hb14
    have y_w14 : w.heap.size < w14.heap.size := by omega
    have O14 := hide own14
    have R14 := hide (unhide O14).range
    clear own14
    go_wp2_with fail
    refine (eqIntS_same l1 u8 u14 _ _ w14 hnm (unhide O8) (unhide O14)).mono ?_
    rintro e w15 ⟨rfl, hb15⟩
    clear O14
    replace E := hide (cell_up (w := w14) (unhide E) hb15)
    replace O4 := hide (OwnF.up (w := w14) (unhide O4) hb15)
    replace X4 := hide (cell_up (w := w14) (unhide X4) hb15)
    replace O6 := hide (OwnF.up (w := w14) (unhide O6) hb15)
    replace X6 := hide (cell_up (w := w14) (unhide X6) hb15)
    replace O8 := hide (OwnI.up (w := w14) (unhide O8) hb15)
    replace O9 := hide (OwnF.up (w := w14) (unhide O9) hb15)
    replace X9 := hide (cell_up (w := w14) (unhide X9) hb15)
    have z_w15 : w14.heap.size ≤ w15.heap.size := hb15.size
    replace BB := hide ((unhide BB).trans (hb15.mono (by show w.heap.size ≤ w14.heap.size; omega)))
    clear hb15
    have y_w15 : w.heap.size < w15.heap.size := by omega
    have q_X6 := unhide X6
    go_wp2_with fail
    clear q_X6
    refine (markDisk_any l0 _ _ 1 w15 hs0 (by omega) (by omega) (unhide O6)).mono ?_
    rintro e w16 ⟨rfl, own16, hg16⟩
    clear own16
    clear O6 X6
    replace E := hide (cell_aside (unhide E) hg16 (unhide R6) (by omega))
    replace O4 := hide (OwnF.aside (unhide O4) hg16 (unhide R4) (unhide R6) (by omega))
    replace X4 := hide (cell_aside (unhide X4) hg16 (unhide R6) (by omega))
    replace O8 := hide (OwnI.aside (unhide O8) hg16 (unhide R8) (unhide R6) (by omega))
    replace O9 := hide (OwnF.aside (unhide O9) hg16 (unhide R9) (unhide R6) (by omega))
    replace X9 := hide (cell_aside (unhide X9) hg16 (unhide R6) (by omega))
    have z_w16 : w15.heap.size ≤ w16.heap.size := hg16.size
    replace BB := hide (below_aside (unhide BB) hg16 (unhide R6) (by omega) (by omega))
    clear hg16
    have y_w16 : w.heap.size < w16.heap.size := by omega
    obtain ⟨K, hK⟩ : ∃ K, K = 1 + l0.length * 3 := ⟨_, rfl⟩
    rw [← hK]
    have hKb : K ≤ 4000000 := by omega
    clear hK
    go_wp2_with fail
    refine (markIntS_any l1 u8 _ K w16 hnm (by omega) (unhide O8)).mono ?_
    rintro e w17 ⟨rfl, hg17⟩
    clear O8
    replace E := hide (cell_aside (unhide E) hg17 (unhide R8) (by omega))
    replace O4 := hide (OwnF.aside (unhide O4) hg17 (unhide R4) (unhide R8) (by omega))
    replace X4 := hide (cell_aside (unhide X4) hg17 (unhide R8) (by omega))
    replace O9 := hide (OwnF.aside (unhide O9) hg17 (unhide R9) (unhide R8) (by omega))
    replace X9 := hide (cell_aside (unhide X9) hg17 (unhide R8) (by omega))
    have z_w17 : w16.heap.size ≤ w17.heap.size := hg17.size
    replace BB := hide (below_aside (unhide BB) hg17 (unhide R8) (by omega) (by omega))
    clear hg17
    have y_w17 : w.heap.size < w17.heap.size := by omega
    generalize K + l1.length = K2
    have q_X9 := unhide X9
    have q_X4 := unhide X4
    go_wp2_with fail
    clear q_X9
    clear q_X4
    refine (eqDisk_same ans _ _ _ _ w17 hal (unhide O9) (unhide O4)).mono ?_
    rintro e w18 ⟨rfl, hb18⟩
    replace E := hide (cell_up (w := w17) (unhide E) hb18)
    replace O4 := hide (OwnF.up (w := w17) (unhide O4) hb18)
    replace X4 := hide (cell_up (w := w17) (unhide X4) hb18)
    replace O9 := hide (OwnF.up (w := w17) (unhide O9) hb18)
    replace X9 := hide (cell_up (w := w17) (unhide X9) hb18)
    have z_w18 : w17.heap.size ≤ w18.heap.size := hb18.size
    replace BB := hide ((unhide BB).trans (hb18.mono (by show w.heap.size ≤ w17.heap.size; omega)))
    clear hb18
    have y_w18 : w.heap.size < w18.heap.size := by omega
    have q_X9 := unhide X9
    go_wp2_with fail
    clear q_X9
    refine (markDisk_any ans _ _ 1 w18 hal (by omega) (by omega) (unhide O9)).mono ?_
    rintro e w19 ⟨rfl, own19, hg19⟩
    clear O9
    replace E := hide (cell_aside (unhide E) hg19 (unhide R9) (by omega))
    replace O4 := hide (OwnF.aside (unhide O4) hg19 (unhide R4) (unhide R9) (by omega))
    replace X4 := hide (cell_aside (unhide X4) hg19 (unhide R9) (by omega))
    replace X9 := hide (cell_aside (unhide X9) hg19 (unhide R9) (by omega))
    have z_w19 : w18.heap.size ≤ w19.heap.size := hg19.size
    replace BB := hide (below_aside (unhide BB) hg19 (unhide R9) (by omega) (by omega))
    clear hg19
    have y_w19 : w.heap.size < w19.heap.size := by omega
    have O19 := hide own19
    clear own19
    have CH := hide (fun v B wx h => heldDisk_any ans.length v B 1 wx hal (by omega) (by omega) h)
    obtain ⟨K3, hK3⟩ : ∃ K, K = 1 + ans.length * 3 := ⟨_, rfl⟩
    rw [← hK3] at CH ⊢
    clear hK3
    have q_X9 := unhide X9
    go_wp2_with fail
    clear q_X9
    refine (unhide CH _ _ w19 (unhide O19)).mono ?_
    rintro e w20 ⟨rfl, hb20⟩
    replace E := hide (cell_up (w := w19) (unhide E) hb20)
    replace O4 := hide (OwnF.up (w := w19) (unhide O4) hb20)
    replace X4 := hide (cell_up (w := w19) (unhide X4) hb20)
    replace X9 := hide (cell_up (w := w19) (unhide X9) hb20)
    replace O19 := hide (OwnF.up (w := w19) (unhide O19) hb20)
    have z_w20 : w19.heap.size ≤ w20.heap.size := hb20.size
    replace BB := hide ((unhide BB).trans (hb20.mono (by show w.heap.size ≤ w19.heap.size; omega)))
    clear hb20
    have y_w20 : w.heap.size < w20.heap.size := by omega
    have q_E := unhide E
    go_wp2_with fail
    clear q_E
    refine (toDisk_any a0 cap0 l0 w20 hs0 ((unhide HA).up (unhide BB))).mono ?_
    rintro e w21 ⟨v21, rfl, own21, hb21⟩
    replace E := hide (cell_up (w := w20) (unhide E) hb21)
    replace O4 := hide (OwnF.up (w := w20) (unhide O4) hb21)
    replace X4 := hide (cell_up (w := w20) (unhide X4) hb21)
    replace X9 := hide (cell_up (w := w20) (unhide X9) hb21)
    replace O19 := hide (OwnF.up (w := w20) (unhide O19) hb21)
    have z_w21 : w20.heap.size ≤ w21.heap.size := hb21.size
    replace BB := hide ((unhide BB).trans (hb21.mono (by show w.heap.size ≤ w20.heap.size; omega)))
    clear hb21
    have y_w21 : w.heap.size < w21.heap.size := by omega
    have O21 := hide own21
    have R21 := hide (unhide O21).range
    clear own21
    go_wp2_with fail
    refine (toIntS_any a1 cap1 l1 w21 hnm ((unhide HI).up (unhide BB))).mono ?_
    rintro e w22 ⟨u22, rfl, own22, hb22⟩
    replace E := hide (cell_up (w := w21) (unhide E) hb22)
    replace O4 := hide (OwnF.up (w := w21) (unhide O4) hb22)
    replace X4 := hide (cell_up (w := w21) (unhide X4) hb22)
    replace X9 := hide (cell_up (w := w21) (unhide X9) hb22)
    replace O19 := hide (OwnF.up (w := w21) (unhide O19) hb22)
    replace O21 := hide (OwnF.up (w := w21) (unhide O21) hb22)
    have z_w22 : w21.heap.size ≤ w22.heap.size := hb22.size
    replace BB := hide ((unhide BB).trans (hb22.mono (by show w.heap.size ≤ w21.heap.size; omega)))
    clear hb22
    have y_w22 : w.heap.size < w22.heap.size := by omega
    have O22 := hide own22
    have R22 := hide (unhide O22).range
    clear own22
    go_wp2_with fail
    refine (unhide CI v21 u22 _ _ w22 (unhide O21) (unhide O22)).mono ?_
    rintro e w23 ⟨v23, rfl, own23, hb23⟩
    clear O21 O22
    replace E := hide (cell_up (w := w22) (unhide E) hb23)
    replace O4 := hide (OwnF.up (w := w22) (unhide O4) hb23)
    replace X4 := hide (cell_up (w := w22) (unhide X4) hb23)
    replace X9 := hide (cell_up (w := w22) (unhide X9) hb23)
    replace O19 := hide (OwnF.up (w := w22) (unhide O19) hb23)
    have z_w23 : w22.heap.size ≤ w23.heap.size := hb23.size
    replace BB := hide ((unhide BB).trans (hb23.mono (by show w.heap.size ≤ w22.heap.size; omega)))
    clear hb23
    have y_w23 : w.heap.size < w23.heap.size := by omega
    have O23 := hide own23
    have R23 := hide (unhide O23).range
    clear own23
    obtain ⟨b23, c23, rfl, _⟩ := OwnF.shape0 (unhide O23)
    have q_X4 := fun o => cell_alloc (unhide X4) o
    go_wp2_with fail
    clear q_X4
    have hx : (w23.alloc (.cells #[.slice b23 ans.length c23] 29)).cell? ⟨w23.heap.size, 0, none⟩ = some (.slice b23 ans.length c23) := by go_simp
    have hbx := (Below.refl w23.heap.size w23).alloc (Nat.le_refl _) (.cells #[.slice b23 ans.length c23] 29)
    have hzx : (w23.alloc (.cells #[.slice b23 ans.length c23] 29)).heap.size = w23.heap.size + 1 := by simp
    obtain ⟨w24, hWx⟩ : ∃ W, W = w23.alloc (.cells #[.slice b23 ans.length c23] 29) := ⟨_, rfl⟩
    rw [← hWx] at hx hbx hzx ⊢
    clear hWx
    replace E := hide (cell_up (w := w23) (unhide E) hbx)
    replace O4 := hide (OwnF.up (w := w23) (unhide O4) hbx)
    replace X4 := hide (cell_up (w := w23) (unhide X4) hbx)
    replace X9 := hide (cell_up (w := w23) (unhide X9) hbx)
    replace O19 := hide (OwnF.up (w := w23) (unhide O19) hbx)
    replace O23 := hide (OwnF.up (w := w23) (unhide O23) hbx)
    have z_w24 : w23.heap.size ≤ w24.heap.size := hbx.size
    replace BB := hide ((unhide BB).trans (hbx.mono (by show w.heap.size ≤ w23.heap.size; omega)))
    clear hbx
    have y_w24 : w.heap.size < w24.heap.size := by omega
    have zz_w24 := hzx
    clear hzx
    have X23 := hide hx
    clear hx
    refine (eqDisk_same ans _ _ _ _ w24 hal (unhide O23) (unhide O4)).mono ?_
    rintro e w25 ⟨rfl, hb25⟩
    clear X23 O23
    replace E := hide (cell_up (w := w24) (unhide E) hb25)
    replace O4 := hide (OwnF.up (w := w24) (unhide O4) hb25)
    replace X4 := hide (cell_up (w := w24) (unhide X4) hb25)
    replace X9 := hide (cell_up (w := w24) (unhide X9) hb25)
    replace O19 := hide (OwnF.up (w := w24) (unhide O19) hb25)
    have z_w25 : w24.heap.size ≤ w25.heap.size := hb25.size
    replace BB := hide ((unhide BB).trans (hb25.mono (by show w.heap.size ≤ w24.heap.size; omega)))
    clear hb25
    have y_w25 : w.heap.size < w25.heap.size := by omega
    have q_X9 := unhide X9
    go_wp2_with fail
    clear q_X9
    refine (unhide CH _ _ w25 (unhide O19)).mono ?_
    rintro e w26 ⟨rfl, hb26⟩
    replace E := hide (cell_up (w := w25) (unhide E) hb26)
    replace O4 := hide (OwnF.up (w := w25) (unhide O4) hb26)
    replace X4 := hide (cell_up (w := w25) (unhide X4) hb26)
    replace X9 := hide (cell_up (w := w25) (unhide X9) hb26)
    replace O19 := hide (OwnF.up (w := w25) (unhide O19) hb26)
    have z_w26 : w25.heap.size ≤ w26.heap.size := hb26.size
    replace BB := hide ((unhide BB).trans (hb26.mono (by show w.heap.size ≤ w25.heap.size; omega)))
    clear hb26
    have y_w26 : w.heap.size < w26.heap.size := by omega
    go_wp2
    go_ret
    exact ⟨rfl, unhide BB⟩
  · clear h0 h1
    go_enter Try.func3, Try.ntmps3
    go_wp2
    go_ret
    exact ⟨rfl, by go_grown⟩

set_option maxRecDepth 100000 in
theorem lifted (os : Os) (started : os.Started) (H : Type) (enc : TypeId × Value → H) :
    ReturnsInHanded {} Try.checked os 3 .any (Rows.fnExactLoseDiskSpec.pre6 enc Try.prog Try.f3 Rows.fnExactLoseDiskRow.domain false) (Rows.fnExactLoseDiskSpec.post enc Try.prog Try.f3 false true false false) := by
  refine returnsInHanded_of_change (C := Try.checked) own started (by kernel_rfl) Try.func3
    (ChangeSpec.witness6 (enc := enc) (C := Try.checked) false ⟨#[], #[.agg #[.slice none 0 0], .slice none 0 0], []⟩ 8 (by kernel_rfl) (by kernel_rfl) (by kernel_rfl) (by kernel_rfl)) ?_
  intro W base args ds gs before hval0 hW hcnd _
  have hval : ∀ (j : Nat) t v, Try.f3.params[j]? = some t → args[j]? = some v → Value.okWide Try.prog W .any base t v := hval0
  have hW' := hW
  obtain ⟨p, q, hA0, hV, rfl, hfz, hnd⟩ := hW
  have hA : DataW.TrodAll enc Try.prog W 0 (fun _ => true) true Try.f3.params.toList args.toList ds p := hA0
  rw [Try.params3] at hA hval
  obtain ⟨v0, vs0, d0, ds0, p0, q0, hargs, rfl, rfl, h0, r0⟩ := trodAll_cons hA
  obtain ⟨v1, vs1, d1, ds1, p1, q1, rfl, rfl, rfl, h1, r1⟩ := trodAll_cons r0
  obtain ⟨rfl, rfl, rfl⟩ := trodAll_nil r1
  obtain rfl : args = #[v0, v1] := by cases args; simp_all
  obtain ⟨rfl, rfl⟩ := trodVars_none hV
  have k0 := h0
  have lt0 : ∀ x ∈ p0, x.block < W.heap.size := by obtain ⟨m, hm⟩ := k0; exact DataW.trod_lt m _ _ _ hm
  have k1 := h1
  have lt1 : ∀ x ∈ p1, x.block < W.heap.size := by obtain ⟨m, hm⟩ := k1; exact DataW.trod_lt m _ _ _ hm
  obtain ⟨a0, cap0, l0, rfl, m0, g0⟩ := open_disk (hval 0 24 v0 rfl rfl) h0
  obtain ⟨a1, cap1, l1, rfl, m1, g1⟩ := open_intS (hval 1 25 v1 rfl rfl) h1
  clear hA0 hval0
  refine (walk a0 cap0 l0 a1 cap1 l1 W m0 g0 m1 g1).mono fun e W' ⟨he, bel⟩ => ?_
  subst he
  exact ⟨_, rfl, _, _, _, [], _, [], hW', trodAll_mk1 (shut_bool Try.underlying4 _), (trodAll_cons_mk (Below.trod laidOut (by kernel_rfl) (of_decide_eq_true (by kernel_rfl)) k0 bel lt0) (trodAll_cons_mk (Below.trod laidOut (by kernel_rfl) (of_decide_eq_true (by kernel_rfl)) k1 bel lt1) trodAll_mk0)), rfl, bel.frame _, fun h => by cases h⟩

theorem over : Rows.fnExactLoseDiskRow.holds Try.pinned (OpenSpec.ofChange Rows.fnExactLoseDiskSpec) :=
  OpenClaim.holds_of_wide 3 Try.f3 rfl rfl rfl rfl rfl rfl rfl ⟨rfl, rfl, rfl, rfl, rfl⟩ rfl rfl rfl rfl rfl (by kernel_rfl) Try.func3 (by kernel_rfl)
    (of_decide_eq_true (by kernel_rfl)) (by unfold Func.isWrapper; first | (rw [if_pos (by decide +kernel)]; kernel_rfl) | (rw [if_neg (by decide +kernel)]; exact ⟨rfl, rfl⟩))
    (fun os started H enc _ => lifted os started H enc)

theorem proved : Rows.FnExactLoseDiskSaid := over
#print axioms proved
end Go.Proofs.Ytipmbfjcgmchkab.fnExactLoseDisk
