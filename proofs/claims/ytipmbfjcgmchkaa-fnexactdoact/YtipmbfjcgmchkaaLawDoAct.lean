/-
  FnExactDoAct: at every disk and every act the program's DoAct answers as the specification's, every field, writes into no argument, and its answer owns its memory: the law returns true, and the arguments read as they did; no condition (what is of over 2^20 values and bytes is passed by the law itself).
-/
import Derived.Test.YtipmbfjcgmchkaaRows
import Derived.Test.YtipmbfjcgmchkaaDoActI
import Derived.Test.YtipmbfjcgmchkaaDoActS
import Derived.Test.YtipmbfjcgmchkaaAct1
import Derived.Test.YtipmbfjcgmchkaaFilesMarks
import Derived.Test.YtipmbfjcgmchkaaLedger2
import Derived.WalkKit
import Derived.ProofKit
import Derived.OpenShut
import Derived.ShutString
import Derived.ChangeOld
import Derived.Below
import Derived.Deep.Cut
import Derived.Carry
namespace Go.Proofs.Ytipmbfjcgmchkaa.fnExactDoAct
open Go.ChangeShapes Go.WideShapes Go.ChangeAt Go.RowKit
open Go.ChangeMaps (open_string shut_string)
open Plain
set_option linter.unusedVariables false

theorem own : ownKnob Try.prog.godebug = none := by kernel_rfl
theorem laidOut : laidOutB Try.prog = true := by kernel_rfl

set_option maxHeartbeats 8000000 in
set_option maxRecDepth 100000 in
theorem walk (a0 : Option Addr) (cap0 : Nat) (l0 : List Fl) (x1 : Ac) (w : World) (m0 : l0.length ≤ maxLen) (h0 : ArgF w.heap.size w a0 l0) (h1 : ActIn x1) :
    Calls Try.prog 7 #[.agg #[.slice a0 l0.length cap0], .agg #[.int .i64 x1.kind, .string x1.name, .string x1.text, .string x1.to]] w fun e w' => e = .returned (.bool true) ∧ Below w.heap.size w w' := by
  have HA := hide h0
  have HX := hide h1
  clear h0 h1
  go_enter Try.func7, Try.ntmps7
  go_wp2_with fail
  have hb0 := ((Below.refl w.heap.size w).alloc (Nat.le_refl _) (.cells #[.slice a0 l0.length cap0] 51)).alloc (by simp) (.cells #[.int .i64 x1.kind, .string x1.name, .string x1.text, .string x1.to] 56)
  have e0 : ((w.alloc (.cells #[.slice a0 l0.length cap0] 51)).alloc (.cells #[.int .i64 x1.kind, .string x1.name, .string x1.text, .string x1.to] 56)).heap[w.heap.size]? = some (.cells #[.slice a0 l0.length cap0] 51 (0, 0)) := by rw [Below.heap_alloc _ _ _ (by simp)]; exact heap_alloc_new _ _
  have e1 : ((w.alloc (.cells #[.slice a0 l0.length cap0] 51)).alloc (.cells #[.int .i64 x1.kind, .string x1.name, .string x1.text, .string x1.to] 56)).heap[w.heap.size + 1]? = some (.cells #[.int .i64 x1.kind, .string x1.name, .string x1.text, .string x1.to] 56 (0, 0)) := heap_alloc2_new _ _ _
  have hsz : ((w.alloc (.cells #[.slice a0 l0.length cap0] 51)).alloc (.cells #[.int .i64 x1.kind, .string x1.name, .string x1.text, .string x1.to] 56)).heap.size = w.heap.size + 2 := by simp
  generalize ((w.alloc (.cells #[.slice a0 l0.length cap0] 51)).alloc (.cells #[.int .i64 x1.kind, .string x1.name, .string x1.text, .string x1.to] 56)) = W at *
  refine (szDisk_any a0 l0.length cap0 l0 W rfl m0 ((unhide HA).up hb0)).mono ?_
  rintro e w1 ⟨⟨m, rfl, hmm⟩, hb1⟩
  have E0 := hide (row_up e0 hb1)
  have E1 := hide (row_up e1 hb1)
  have BB := hide (hb0.trans (hb1.mono (by omega)))
  have y_w1 : w.heap.size + 1 < w1.heap.size := by have := hb1.size; omega
  clear e0 e1 hb0 hb1
  rcases hmm with rfl | ⟨q, rfl, hq, hsm⟩
  · go_wp2
    go_ret
    exact ⟨rfl, unhide BB⟩
  have HS := hide hsm
  have hs0 := hsm.1
  clear hsm
  obtain ⟨q0_E1, q1_E1, q2_E1, q3_E1⟩ := row_cell4 (unhide E1)
  go_wp2_with fail
  clear q0_E1 q1_E1 q2_E1 q3_E1
  refine (szAct_any x1 q w1 hq (unhide HX)).mono ?_
  rintro e w2 ⟨⟨m2, rfl, hmm2⟩, hb2⟩
  replace E0 := hide (row_up (w := w1) (unhide E0) hb2)
  replace E1 := hide (row_up (w := w1) (unhide E1) hb2)
  have z_w2 : w1.heap.size ≤ w2.heap.size := hb2.size
  replace BB := hide ((unhide BB).trans (hb2.mono (by show w.heap.size ≤ w1.heap.size; omega)))
  clear hb2
  have y_w2 : w.heap.size + 1 < w2.heap.size := by omega
  rcases hmm2 with rfl | ⟨q2, rfl, hq2, hsa⟩
  · go_wp2
    go_ret
    exact ⟨rfl, unhide BB⟩
  have HSA := hide hsa
  clear hsa
  go_wp2
  have CS := hide (fun v B wx h => spec_DoAct_any l0 x1 v B wx (unhide HS) (unhide HSA) h)
  have CI := hide (fun v B wx h => impl_DoAct_any l0 x1 v B wx (unhide HS) (unhide HSA) h)
  have hal : ((doneL l0 x1).getD []).length ≤ 1048576 := by
    cases hd : doneL l0 x1 with
    | none => simp
    | some l' =>
      unfold doneL at hd
      cases hdb : diskB l0
      · rw [hdb] at hd; cases hd
      · rw [hdb] at hd
        have := (diskB_iff.1 (actL_right hdb hd)).1
        simp; omega
  generalize (doneL l0 x1).getD [] = ans at CS CI hal
  generalize (doneL l0 x1).isSome = d at CS CI
  clear HSA
  go_cut [6, 7] from 16 (fun s6 s7 wc => ∃ (bx : Nat) (vx : Value), s6 = .pointer (some ⟨bx, 0, none⟩) ∧ s7 = .bool d ∧ wc.heap[bx]? = some (.cells #[vx] 26 (0, 0)) ∧ w2.heap.size ≤ bx ∧ OwnF w2.heap.size wc vx ans ∧ Below w2.heap.size w2 wc)
  case first =>
    refine wp_region_held_drew (S := fun w' => w'.cell? ⟨w.heap.size, 0, none⟩ = some (.slice a0 l0.length cap0) ∧ w'.cell? ⟨w.heap.size + 1, 0, none⟩ = some (.int .i64 x1.kind) ∧ w'.cell? ⟨w.heap.size + 1, 1, none⟩ = some (.string x1.name) ∧ w'.cell? ⟨w.heap.size + 1, 2, none⟩ = some (.string x1.text) ∧ w'.cell? ⟨w.heap.size + 1, 3, none⟩ = some (.string x1.to)) (by kernel_rfl) (⟨row_cell (w := w2.drew) (unhide E0), (row_cell4 (w := w2.drew) (unhide E1)).1, (row_cell4 (w := w2.drew) (unhide E1)).2.1, (row_cell4 (w := w2.drew) (unhide E1)).2.2.1, (row_cell4 (w := w2.drew) (unhide E1)).2.2.2⟩) (fun hHeld => ?_)
    refine takeVal 0 (some 27) ?_ rfl (by kernel_rfl) (by kernel_rfl) (by kernel_rfl) rfl (fun _ _ _ h => h) (by rfl) (by assumption) ?_ ?_
    rotate_left
    · (intro w hSw; (try dsimp only at hSw); go_simp <;> with_reducible rfl)
    simp only [Act.put, List.setIfInBounds_toArray, List.set_cons_zero, List.set_cons_succ]
    refine takeVal 2 (some 29) ?_ rfl (by kernel_rfl) (by kernel_rfl) (by kernel_rfl) rfl (fun _ _ _ h => h) (by rfl) (by assumption) ?_ ?_
    rotate_left
    · (intro w hSw; (try dsimp only at hSw); go_simp <;> with_reducible rfl)
    simp only [Act.put, List.setIfInBounds_toArray, List.set_cons_zero, List.set_cons_succ]
    have hB0 : Below w2.heap.size w2 w2.drew := (Below.refl _ _).drew
    refine wpAnyH_ready (rs := [1, 8]) (by kernel_rfl) (by simp) ?_
    refine (AllReadyH.cons rfl (fun K hK => ?_) (AllReadyH.cons rfl (fun K hK => ?_) AllReadyH.nil))
    · skip
      go_simp
      refine (toDisk_any a0 cap0 l0 (w2.drew) hs0 ((unhide HA).up ((unhide BB).trans ((hB0).mono (by omega))))).mono ?_
      rintro e v1w ⟨vv1, rfl, hod1, hbk1⟩
      go_wp2_with fail
      refine hK.out _ _ (⟨(cell_on (w := w2.drew) hbk1 hHeld.1), (cell_on (w := w2.drew) hbk1 hHeld.2.1), (cell_on (w := w2.drew) hbk1 hHeld.2.2.1), (cell_on (w := w2.drew) hbk1 hHeld.2.2.2.1), (cell_on (w := w2.drew) hbk1 hHeld.2.2.2.2)⟩) (fun hHeld2 => ?_)
      clear hK K hHeld
      have hHeld := hHeld2; clear hHeld2
      try simp only [Act.put, List.setIfInBounds_toArray, List.set_cons_zero, List.set_cons_succ]
      have hB1 : Below w2.heap.size w2 v1w := (hB0).trans (hbk1.mono (by have := (hB0).size; first | exact this | omega))
      have hz1 : w2.heap.size ≤ v1w.heap.size := (hB1).size
      refine wpAnyH_ready (rs := [3, 8]) (by kernel_rfl) (by simp) ?_
      refine (AllReadyH.cons rfl (fun K hK => ?_) (AllReadyH.cons rfl (fun K hK => ?_) AllReadyH.nil))
      · skip
        go_simp
        refine (toAct_any x1 (v1w)).mono ?_
        rintro e v2w ⟨rfl, hbk2⟩
        go_wp2_with fail
        refine hK.out _ _ (⟨(cell_on (w := v1w) hbk2 hHeld.1), (cell_on (w := v1w) hbk2 hHeld.2.1), (cell_on (w := v1w) hbk2 hHeld.2.2.1), (cell_on (w := v1w) hbk2 hHeld.2.2.2.1), (cell_on (w := v1w) hbk2 hHeld.2.2.2.2)⟩) (fun hHeld2 => ?_)
        clear hK K hHeld
        have hHeld := hHeld2; clear hHeld2
        try simp only [Act.put, List.setIfInBounds_toArray, List.set_cons_zero, List.set_cons_succ]
        have hB2 : Below w2.heap.size w2 v2w := (hB1).trans (hbk2.mono (by have := (hB1).size; first | exact this | omega))
        have hz2 : w2.heap.size ≤ v2w.heap.size := (hB2).size
        have hod1_2 := own_stays (w := v1w) hod1 hbk2
        refine wpAnyH_ready (rs := [4, 8]) (by kernel_rfl) (by simp) ?_
        refine (AllReadyH.cons rfl (fun K hK => ?_) (AllReadyH.cons rfl (fun K hK => ?_) AllReadyH.nil))
        · skip
          go_simp
          refine (unhide CS _ _ (v2w) hod1_2).mono ?_
          rintro e v3w ⟨vv3, rfl, hans3, hbk3⟩
          go_wp2_with fail
          refine hK.out _ _ (⟨(cell_on (w := v2w) hbk3 hHeld.1), (cell_on (w := v2w) hbk3 hHeld.2.1), (cell_on (w := v2w) hbk3 hHeld.2.2.1), (cell_on (w := v2w) hbk3 hHeld.2.2.2.1), (cell_on (w := v2w) hbk3 hHeld.2.2.2.2)⟩) (fun hHeld2 => ?_)
          clear hK K hHeld
          have hHeld := hHeld2; clear hHeld2
          try simp only [Act.put, List.setIfInBounds_toArray, List.set_cons_zero, List.set_cons_succ]
          have hB3 : Below w2.heap.size w2 v3w := (hB2).trans (hbk3.mono (by have := (hB2).size; first | exact this | omega))
          have hz3 : w2.heap.size ≤ v3w.heap.size := (hB3).size
          have hod1_3 := own_stays (w := v2w) hod1_2 hbk3
          refine takeVal 5 (some 26) ?_ rfl (by kernel_rfl) (by kernel_rfl) (by kernel_rfl) rfl (fun _ _ _ h => h) (by rfl) (by assumption) ?_ ?_
          rotate_left
          · (intro w hSw; (try dsimp only at hSw); go_simp <;> with_reducible rfl)
          simp only [Act.put, List.setIfInBounds_toArray, List.set_cons_zero, List.set_cons_succ]
          refine takeVal 6 (some 32) ?_ rfl (by kernel_rfl) (by kernel_rfl) (by kernel_rfl) rfl (fun _ _ _ h => h) (by rfl) (by assumption) ?_ ?_
          rotate_left
          · (intro w hSw; (try dsimp only at hSw); go_simp <;> with_reducible rfl)
          simp only [Act.put, List.setIfInBounds_toArray, List.set_cons_zero, List.set_cons_succ]
          refine takeVal 7 (some 33) ?_ rfl (by kernel_rfl) (by kernel_rfl) (by kernel_rfl) rfl (fun _ _ _ h => h) (by rfl) (by assumption) ?_ ?_
          rotate_left
          · (intro w hSw; (try dsimp only at hSw); go_simp <;> with_reducible rfl)
          simp only [Act.put, List.setIfInBounds_toArray, List.set_cons_zero, List.set_cons_succ]
          refine wpAnyH_ready (rs := [8]) (by kernel_rfl) (by simp) ?_
          refine (AllReadyH.cons rfl (fun K hK => ?_) AllReadyH.nil)
          go_simp
          refine hK.out _ _ (⟨(cell_on ((Below.refl _ _).alloc (Nat.le_refl _) _) hHeld.1), (cell_on ((Below.refl _ _).alloc (Nat.le_refl _) _) hHeld.2.1), (cell_on ((Below.refl _ _).alloc (Nat.le_refl _) _) hHeld.2.2.1), (cell_on ((Below.refl _ _).alloc (Nat.le_refl _) _) hHeld.2.2.2.1), (cell_on ((Below.refl _ _).alloc (Nat.le_refl _) _) hHeld.2.2.2.2)⟩) (fun hHeld2 => ?_)
          clear hK K hHeld
          have hHeld := hHeld2; clear hHeld2
          try simp only [Act.put, List.setIfInBounds_toArray, List.set_cons_zero, List.set_cons_succ]
          have hrw4 : (v3w.alloc (.cells #[.slice none 0 0] 26)).heap[v3w.heap.size]? = some (.cells #[.slice none 0 0] 26 (0, 0)) := heap_alloc_new v3w _
          have hbk4 : Below v3w.heap.size v3w (v3w.alloc (.cells #[.slice none 0 0] 26)) := ((Below.refl v3w.heap.size v3w).alloc (Nat.le_refl _) (.cells #[.slice none 0 0] 26))
          have hbs4 : w2.heap.size ≤ v3w.heap.size := (hB3).size
          obtain ⟨v4w, hwa4⟩ : ∃ W, W = (v3w.alloc (.cells #[.slice none 0 0] 26)) := ⟨_, rfl⟩
          rw [← hwa4] at hrw4 hbk4 hHeld ⊢
          clear hwa4
          have hB4 : Below w2.heap.size w2 v4w := (hB3).trans (hbk4.mono (by have := (hB3).size; first | exact this | omega))
          have hz4 : w2.heap.size ≤ v4w.heap.size := (hB4).size
          have hlt4 : v3w.heap.size < v4w.heap.size := row_lt hrw4
          have hod1_4 := own_stays (w := v3w) hod1_3 hbk4
          have hans3_4 := own_stays (w := v3w) hans3 hbk4
          obtain ⟨xa, xn, xc, hvx⟩ := own_shape hans3_4
          subst hvx
          have r0 := row_cell hrw4
          have z0 := row_frozen hrw4
          have RW := hide (set1 (.slice xa xn xc) hrw4)
          have OW := hide (own_set (u := .slice xa xn xc) hans3_4 hrw4 (by decide))
          have BW := hide ((hB4).setCell (p := ⟨v3w.heap.size, 0, none⟩) (by show w2.heap.size ≤ v3w.heap.size; omega) (.slice xa xn xc))
          refine wpAnyH_ready (rs := [9]) (by kernel_rfl) (by simp) ?_
          refine AllReadyH.cons rfl (fun K hK => ?_) AllReadyH.nil
          go_simp
          refine hK.out _ _ (⟨((World.cell?_setCell_other _ _ _ _ (by simp <;> omega)).trans hHeld.1), ((World.cell?_setCell_other _ _ _ _ (by simp <;> omega)).trans hHeld.2.1), ((World.cell?_setCell_other _ _ _ _ (by simp <;> omega)).trans hHeld.2.2.1), ((World.cell?_setCell_other _ _ _ _ (by simp <;> omega)).trans hHeld.2.2.2.1), ((World.cell?_setCell_other _ _ _ _ (by simp <;> omega)).trans hHeld.2.2.2.2)⟩) (fun hHeld2 => ?_)
          clear hK K hHeld
          have hHeld := hHeld2; clear hHeld2
          try simp only [Act.put, List.setIfInBounds_toArray, List.set_cons_zero, List.set_cons_succ]
          refine takeVal 10 (some 7) ?_ rfl (by kernel_rfl) (by kernel_rfl) (by kernel_rfl) rfl (fun _ _ _ h => h) (by rfl) (by assumption) ?_ ?_
          rotate_left
          · (intro w hSw; (try dsimp only at hSw); go_simp <;> with_reducible rfl)
          simp only [Act.put, List.setIfInBounds_toArray, List.set_cons_zero, List.set_cons_succ]
          refine wpAnyH_done (by kernel_rfl) ?_ _
          go_wp2
          go_meet
          case rel => exact ⟨v3w.heap.size, .slice xa xn xc, rfl, rfl, unhide RW, by omega, own_based (unhide OW) (by omega), unhide BW⟩
        · skip
          go_simp
          refine hK.out _ _ (⟨(cell_on ((Below.refl _ _).alloc (Nat.le_refl _) _) hHeld.1), (cell_on ((Below.refl _ _).alloc (Nat.le_refl _) _) hHeld.2.1), (cell_on ((Below.refl _ _).alloc (Nat.le_refl _) _) hHeld.2.2.1), (cell_on ((Below.refl _ _).alloc (Nat.le_refl _) _) hHeld.2.2.2.1), (cell_on ((Below.refl _ _).alloc (Nat.le_refl _) _) hHeld.2.2.2.2)⟩) (fun hHeld2 => ?_)
          clear hK K hHeld
          have hHeld := hHeld2; clear hHeld2
          try simp only [Act.put, List.setIfInBounds_toArray, List.set_cons_zero, List.set_cons_succ]
          have hrw5 : (v2w.alloc (.cells #[.slice none 0 0] 26)).heap[v2w.heap.size]? = some (.cells #[.slice none 0 0] 26 (0, 0)) := heap_alloc_new v2w _
          have hbk5 : Below v2w.heap.size v2w (v2w.alloc (.cells #[.slice none 0 0] 26)) := ((Below.refl v2w.heap.size v2w).alloc (Nat.le_refl _) (.cells #[.slice none 0 0] 26))
          have hbs5 : w2.heap.size ≤ v2w.heap.size := (hB2).size
          obtain ⟨v5w, hwa5⟩ : ∃ W, W = (v2w.alloc (.cells #[.slice none 0 0] 26)) := ⟨_, rfl⟩
          rw [← hwa5] at hrw5 hbk5 hHeld ⊢
          clear hwa5
          have hB5 : Below w2.heap.size w2 v5w := (hB2).trans (hbk5.mono (by have := (hB2).size; first | exact this | omega))
          have hz5 : w2.heap.size ≤ v5w.heap.size := (hB5).size
          have hlt5 : v2w.heap.size < v5w.heap.size := row_lt hrw5
          have hod1_5 := own_stays (w := v2w) hod1_2 hbk5
          refine wpAnyH_ready (rs := [4]) (by kernel_rfl) (by simp) ?_
          refine (AllReadyH.cons rfl (fun K hK => ?_) AllReadyH.nil)
          go_simp
          refine (unhide CS _ _ (v5w) hod1_5).mono ?_
          rintro e v6w ⟨vv6, rfl, hans6, hbk6⟩
          go_wp2_with fail
          refine hK.out _ _ (⟨(cell_on (w := v5w) hbk6 hHeld.1), (cell_on (w := v5w) hbk6 hHeld.2.1), (cell_on (w := v5w) hbk6 hHeld.2.2.1), (cell_on (w := v5w) hbk6 hHeld.2.2.2.1), (cell_on (w := v5w) hbk6 hHeld.2.2.2.2)⟩) (fun hHeld2 => ?_)
          clear hK K hHeld
          have hHeld := hHeld2; clear hHeld2
          try simp only [Act.put, List.setIfInBounds_toArray, List.set_cons_zero, List.set_cons_succ]
          have hB6 : Below w2.heap.size w2 v6w := (hB5).trans (hbk6.mono (by have := (hB5).size; first | exact this | omega))
          have hz6 : w2.heap.size ≤ v6w.heap.size := (hB6).size
          have hod1_6 := own_stays (w := v5w) hod1_5 hbk6
          have hrw6 := row_up (w := v5w) hrw5 hbk6
          refine takeVal 5 (some 26) ?_ rfl (by kernel_rfl) (by kernel_rfl) (by kernel_rfl) rfl (fun _ _ _ h => h) (by rfl) (by assumption) ?_ ?_
          rotate_left
          · (intro w hSw; (try dsimp only at hSw); go_simp <;> with_reducible rfl)
          simp only [Act.put, List.setIfInBounds_toArray, List.set_cons_zero, List.set_cons_succ]
          refine takeVal 6 (some 32) ?_ rfl (by kernel_rfl) (by kernel_rfl) (by kernel_rfl) rfl (fun _ _ _ h => h) (by rfl) (by assumption) ?_ ?_
          rotate_left
          · (intro w hSw; (try dsimp only at hSw); go_simp <;> with_reducible rfl)
          simp only [Act.put, List.setIfInBounds_toArray, List.set_cons_zero, List.set_cons_succ]
          refine takeVal 7 (some 33) ?_ rfl (by kernel_rfl) (by kernel_rfl) (by kernel_rfl) rfl (fun _ _ _ h => h) (by rfl) (by assumption) ?_ ?_
          rotate_left
          · (intro w hSw; (try dsimp only at hSw); go_simp <;> with_reducible rfl)
          simp only [Act.put, List.setIfInBounds_toArray, List.set_cons_zero, List.set_cons_succ]
          obtain ⟨xa, xn, xc, hvx⟩ := own_shape hans6
          subst hvx
          have r0 := row_cell hrw6
          have z0 := row_frozen hrw6
          have RW := hide (set1 (.slice xa xn xc) hrw6)
          have OW := hide (own_set (u := .slice xa xn xc) hans6 hrw6 (by decide))
          have BW := hide ((hB6).setCell (p := ⟨v2w.heap.size, 0, none⟩) (by show w2.heap.size ≤ v2w.heap.size; omega) (.slice xa xn xc))
          refine wpAnyH_ready (rs := [9]) (by kernel_rfl) (by simp) ?_
          refine AllReadyH.cons rfl (fun K hK => ?_) AllReadyH.nil
          go_simp
          refine hK.out _ _ (⟨((World.cell?_setCell_other _ _ _ _ (by simp <;> omega)).trans hHeld.1), ((World.cell?_setCell_other _ _ _ _ (by simp <;> omega)).trans hHeld.2.1), ((World.cell?_setCell_other _ _ _ _ (by simp <;> omega)).trans hHeld.2.2.1), ((World.cell?_setCell_other _ _ _ _ (by simp <;> omega)).trans hHeld.2.2.2.1), ((World.cell?_setCell_other _ _ _ _ (by simp <;> omega)).trans hHeld.2.2.2.2)⟩) (fun hHeld2 => ?_)
          clear hK K hHeld
          have hHeld := hHeld2; clear hHeld2
          try simp only [Act.put, List.setIfInBounds_toArray, List.set_cons_zero, List.set_cons_succ]
          refine takeVal 10 (some 7) ?_ rfl (by kernel_rfl) (by kernel_rfl) (by kernel_rfl) rfl (fun _ _ _ h => h) (by rfl) (by assumption) ?_ ?_
          rotate_left
          · (intro w hSw; (try dsimp only at hSw); go_simp <;> with_reducible rfl)
          simp only [Act.put, List.setIfInBounds_toArray, List.set_cons_zero, List.set_cons_succ]
          refine wpAnyH_done (by kernel_rfl) ?_ _
          go_wp2
          go_meet
          case rel => exact ⟨v2w.heap.size, .slice xa xn xc, rfl, rfl, unhide RW, by omega, own_based (unhide OW) (by omega), unhide BW⟩
      · skip
        go_simp
        refine hK.out _ _ (⟨(cell_on ((Below.refl _ _).alloc (Nat.le_refl _) _) hHeld.1), (cell_on ((Below.refl _ _).alloc (Nat.le_refl _) _) hHeld.2.1), (cell_on ((Below.refl _ _).alloc (Nat.le_refl _) _) hHeld.2.2.1), (cell_on ((Below.refl _ _).alloc (Nat.le_refl _) _) hHeld.2.2.2.1), (cell_on ((Below.refl _ _).alloc (Nat.le_refl _) _) hHeld.2.2.2.2)⟩) (fun hHeld2 => ?_)
        clear hK K hHeld
        have hHeld := hHeld2; clear hHeld2
        try simp only [Act.put, List.setIfInBounds_toArray, List.set_cons_zero, List.set_cons_succ]
        have hrw7 : (v1w.alloc (.cells #[.slice none 0 0] 26)).heap[v1w.heap.size]? = some (.cells #[.slice none 0 0] 26 (0, 0)) := heap_alloc_new v1w _
        have hbk7 : Below v1w.heap.size v1w (v1w.alloc (.cells #[.slice none 0 0] 26)) := ((Below.refl v1w.heap.size v1w).alloc (Nat.le_refl _) (.cells #[.slice none 0 0] 26))
        have hbs7 : w2.heap.size ≤ v1w.heap.size := (hB1).size
        obtain ⟨v7w, hwa7⟩ : ∃ W, W = (v1w.alloc (.cells #[.slice none 0 0] 26)) := ⟨_, rfl⟩
        rw [← hwa7] at hrw7 hbk7 hHeld ⊢
        clear hwa7
        have hB7 : Below w2.heap.size w2 v7w := (hB1).trans (hbk7.mono (by have := (hB1).size; first | exact this | omega))
        have hz7 : w2.heap.size ≤ v7w.heap.size := (hB7).size
        have hlt7 : v1w.heap.size < v7w.heap.size := row_lt hrw7
        have hod1_7 := own_stays (w := v1w) hod1 hbk7
        refine wpAnyH_ready (rs := [3]) (by kernel_rfl) (by simp) ?_
        refine (AllReadyH.cons rfl (fun K hK => ?_) AllReadyH.nil)
        go_simp
        refine (toAct_any x1 (v7w)).mono ?_
        rintro e v8w ⟨rfl, hbk8⟩
        go_wp2_with fail
        refine hK.out _ _ (⟨(cell_on (w := v7w) hbk8 hHeld.1), (cell_on (w := v7w) hbk8 hHeld.2.1), (cell_on (w := v7w) hbk8 hHeld.2.2.1), (cell_on (w := v7w) hbk8 hHeld.2.2.2.1), (cell_on (w := v7w) hbk8 hHeld.2.2.2.2)⟩) (fun hHeld2 => ?_)
        clear hK K hHeld
        have hHeld := hHeld2; clear hHeld2
        try simp only [Act.put, List.setIfInBounds_toArray, List.set_cons_zero, List.set_cons_succ]
        have hB8 : Below w2.heap.size w2 v8w := (hB7).trans (hbk8.mono (by have := (hB7).size; first | exact this | omega))
        have hz8 : w2.heap.size ≤ v8w.heap.size := (hB8).size
        have hod1_8 := own_stays (w := v7w) hod1_7 hbk8
        have hrw8 := row_up (w := v7w) hrw7 hbk8
        refine wpAnyH_ready (rs := [4]) (by kernel_rfl) (by simp) ?_
        refine (AllReadyH.cons rfl (fun K hK => ?_) AllReadyH.nil)
        go_simp
        refine (unhide CS _ _ (v8w) hod1_8).mono ?_
        rintro e v9w ⟨vv9, rfl, hans9, hbk9⟩
        go_wp2_with fail
        refine hK.out _ _ (⟨(cell_on (w := v8w) hbk9 hHeld.1), (cell_on (w := v8w) hbk9 hHeld.2.1), (cell_on (w := v8w) hbk9 hHeld.2.2.1), (cell_on (w := v8w) hbk9 hHeld.2.2.2.1), (cell_on (w := v8w) hbk9 hHeld.2.2.2.2)⟩) (fun hHeld2 => ?_)
        clear hK K hHeld
        have hHeld := hHeld2; clear hHeld2
        try simp only [Act.put, List.setIfInBounds_toArray, List.set_cons_zero, List.set_cons_succ]
        have hB9 : Below w2.heap.size w2 v9w := (hB8).trans (hbk9.mono (by have := (hB8).size; first | exact this | omega))
        have hz9 : w2.heap.size ≤ v9w.heap.size := (hB9).size
        have hod1_9 := own_stays (w := v8w) hod1_8 hbk9
        have hrw9 := row_up (w := v8w) hrw8 hbk9
        refine takeVal 5 (some 26) ?_ rfl (by kernel_rfl) (by kernel_rfl) (by kernel_rfl) rfl (fun _ _ _ h => h) (by rfl) (by assumption) ?_ ?_
        rotate_left
        · (intro w hSw; (try dsimp only at hSw); go_simp <;> with_reducible rfl)
        simp only [Act.put, List.setIfInBounds_toArray, List.set_cons_zero, List.set_cons_succ]
        refine takeVal 6 (some 32) ?_ rfl (by kernel_rfl) (by kernel_rfl) (by kernel_rfl) rfl (fun _ _ _ h => h) (by rfl) (by assumption) ?_ ?_
        rotate_left
        · (intro w hSw; (try dsimp only at hSw); go_simp <;> with_reducible rfl)
        simp only [Act.put, List.setIfInBounds_toArray, List.set_cons_zero, List.set_cons_succ]
        refine takeVal 7 (some 33) ?_ rfl (by kernel_rfl) (by kernel_rfl) (by kernel_rfl) rfl (fun _ _ _ h => h) (by rfl) (by assumption) ?_ ?_
        rotate_left
        · (intro w hSw; (try dsimp only at hSw); go_simp <;> with_reducible rfl)
        simp only [Act.put, List.setIfInBounds_toArray, List.set_cons_zero, List.set_cons_succ]
        obtain ⟨xa, xn, xc, hvx⟩ := own_shape hans9
        subst hvx
        have r0 := row_cell hrw9
        have z0 := row_frozen hrw9
        have RW := hide (set1 (.slice xa xn xc) hrw9)
        have OW := hide (own_set (u := .slice xa xn xc) hans9 hrw9 (by decide))
        have BW := hide ((hB9).setCell (p := ⟨v1w.heap.size, 0, none⟩) (by show w2.heap.size ≤ v1w.heap.size; omega) (.slice xa xn xc))
        refine wpAnyH_ready (rs := [9]) (by kernel_rfl) (by simp) ?_
        refine AllReadyH.cons rfl (fun K hK => ?_) AllReadyH.nil
        go_simp
        refine hK.out _ _ (⟨((World.cell?_setCell_other _ _ _ _ (by simp <;> omega)).trans hHeld.1), ((World.cell?_setCell_other _ _ _ _ (by simp <;> omega)).trans hHeld.2.1), ((World.cell?_setCell_other _ _ _ _ (by simp <;> omega)).trans hHeld.2.2.1), ((World.cell?_setCell_other _ _ _ _ (by simp <;> omega)).trans hHeld.2.2.2.1), ((World.cell?_setCell_other _ _ _ _ (by simp <;> omega)).trans hHeld.2.2.2.2)⟩) (fun hHeld2 => ?_)
        clear hK K hHeld
        have hHeld := hHeld2; clear hHeld2
        try simp only [Act.put, List.setIfInBounds_toArray, List.set_cons_zero, List.set_cons_succ]
        refine takeVal 10 (some 7) ?_ rfl (by kernel_rfl) (by kernel_rfl) (by kernel_rfl) rfl (fun _ _ _ h => h) (by rfl) (by assumption) ?_ ?_
        rotate_left
        · (intro w hSw; (try dsimp only at hSw); go_simp <;> with_reducible rfl)
        simp only [Act.put, List.setIfInBounds_toArray, List.set_cons_zero, List.set_cons_succ]
        refine wpAnyH_done (by kernel_rfl) ?_ _
        go_wp2
        go_meet
        case rel => exact ⟨v1w.heap.size, .slice xa xn xc, rfl, rfl, unhide RW, by omega, own_based (unhide OW) (by omega), unhide BW⟩
    · skip
      go_simp
      refine hK.out _ _ (⟨(cell_on ((Below.refl _ _).alloc (Nat.le_refl _) _) hHeld.1), (cell_on ((Below.refl _ _).alloc (Nat.le_refl _) _) hHeld.2.1), (cell_on ((Below.refl _ _).alloc (Nat.le_refl _) _) hHeld.2.2.1), (cell_on ((Below.refl _ _).alloc (Nat.le_refl _) _) hHeld.2.2.2.1), (cell_on ((Below.refl _ _).alloc (Nat.le_refl _) _) hHeld.2.2.2.2)⟩) (fun hHeld2 => ?_)
      clear hK K hHeld
      have hHeld := hHeld2; clear hHeld2
      try simp only [Act.put, List.setIfInBounds_toArray, List.set_cons_zero, List.set_cons_succ]
      have hrw10 : (w2.alloc (.cells #[.slice none 0 0] 26)).drew.heap[w2.heap.size]? = some (.cells #[.slice none 0 0] 26 (0, 0)) := heap_alloc_new w2 _
      have hbk10 : Below w2.heap.size w2 (w2.alloc (.cells #[.slice none 0 0] 26)).drew := ((Below.refl w2.heap.size w2).alloc (Nat.le_refl _) (.cells #[.slice none 0 0] 26)).drew
      have hbs10 : w2.heap.size ≤ w2.heap.size := Nat.le_refl _
      obtain ⟨v10w, hwa10⟩ : ∃ W, W = (w2.alloc (.cells #[.slice none 0 0] 26)).drew := ⟨_, rfl⟩
      rw [← hwa10] at hrw10 hbk10 hHeld ⊢
      clear hwa10
      have hB10 : Below w2.heap.size w2 v10w := hbk10
      have hz10 : w2.heap.size ≤ v10w.heap.size := (hB10).size
      have hlt10 : w2.heap.size < v10w.heap.size := row_lt hrw10
      refine wpAnyH_ready (rs := [1]) (by kernel_rfl) (by simp) ?_
      refine (AllReadyH.cons rfl (fun K hK => ?_) AllReadyH.nil)
      go_simp
      refine (toDisk_any a0 cap0 l0 (v10w) hs0 ((unhide HA).up ((unhide BB).trans ((hB10).mono (by omega))))).mono ?_
      rintro e v11w ⟨vv11, rfl, hod11, hbk11⟩
      go_wp2_with fail
      refine hK.out _ _ (⟨(cell_on (w := v10w) hbk11 hHeld.1), (cell_on (w := v10w) hbk11 hHeld.2.1), (cell_on (w := v10w) hbk11 hHeld.2.2.1), (cell_on (w := v10w) hbk11 hHeld.2.2.2.1), (cell_on (w := v10w) hbk11 hHeld.2.2.2.2)⟩) (fun hHeld2 => ?_)
      clear hK K hHeld
      have hHeld := hHeld2; clear hHeld2
      try simp only [Act.put, List.setIfInBounds_toArray, List.set_cons_zero, List.set_cons_succ]
      have hB11 : Below w2.heap.size w2 v11w := (hB10).trans (hbk11.mono (by have := (hB10).size; first | exact this | omega))
      have hz11 : w2.heap.size ≤ v11w.heap.size := (hB11).size
      have hrw11 := row_up (w := v10w) hrw10 hbk11
      refine wpAnyH_ready (rs := [3]) (by kernel_rfl) (by simp) ?_
      refine (AllReadyH.cons rfl (fun K hK => ?_) AllReadyH.nil)
      go_simp
      refine (toAct_any x1 (v11w)).mono ?_
      rintro e v12w ⟨rfl, hbk12⟩
      go_wp2_with fail
      refine hK.out _ _ (⟨(cell_on (w := v11w) hbk12 hHeld.1), (cell_on (w := v11w) hbk12 hHeld.2.1), (cell_on (w := v11w) hbk12 hHeld.2.2.1), (cell_on (w := v11w) hbk12 hHeld.2.2.2.1), (cell_on (w := v11w) hbk12 hHeld.2.2.2.2)⟩) (fun hHeld2 => ?_)
      clear hK K hHeld
      have hHeld := hHeld2; clear hHeld2
      try simp only [Act.put, List.setIfInBounds_toArray, List.set_cons_zero, List.set_cons_succ]
      have hB12 : Below w2.heap.size w2 v12w := (hB11).trans (hbk12.mono (by have := (hB11).size; first | exact this | omega))
      have hz12 : w2.heap.size ≤ v12w.heap.size := (hB12).size
      have hod11_12 := own_stays (w := v11w) hod11 hbk12
      have hrw12 := row_up (w := v11w) hrw11 hbk12
      refine wpAnyH_ready (rs := [4]) (by kernel_rfl) (by simp) ?_
      refine (AllReadyH.cons rfl (fun K hK => ?_) AllReadyH.nil)
      go_simp
      refine (unhide CS _ _ (v12w) hod11_12).mono ?_
      rintro e v13w ⟨vv13, rfl, hans13, hbk13⟩
      go_wp2_with fail
      refine hK.out _ _ (⟨(cell_on (w := v12w) hbk13 hHeld.1), (cell_on (w := v12w) hbk13 hHeld.2.1), (cell_on (w := v12w) hbk13 hHeld.2.2.1), (cell_on (w := v12w) hbk13 hHeld.2.2.2.1), (cell_on (w := v12w) hbk13 hHeld.2.2.2.2)⟩) (fun hHeld2 => ?_)
      clear hK K hHeld
      have hHeld := hHeld2; clear hHeld2
      try simp only [Act.put, List.setIfInBounds_toArray, List.set_cons_zero, List.set_cons_succ]
      have hB13 : Below w2.heap.size w2 v13w := (hB12).trans (hbk13.mono (by have := (hB12).size; first | exact this | omega))
      have hz13 : w2.heap.size ≤ v13w.heap.size := (hB13).size
      have hod11_13 := own_stays (w := v12w) hod11_12 hbk13
      have hrw13 := row_up (w := v12w) hrw12 hbk13
      refine takeVal 5 (some 26) ?_ rfl (by kernel_rfl) (by kernel_rfl) (by kernel_rfl) rfl (fun _ _ _ h => h) (by rfl) (by assumption) ?_ ?_
      rotate_left
      · (intro w hSw; (try dsimp only at hSw); go_simp <;> with_reducible rfl)
      simp only [Act.put, List.setIfInBounds_toArray, List.set_cons_zero, List.set_cons_succ]
      refine takeVal 6 (some 32) ?_ rfl (by kernel_rfl) (by kernel_rfl) (by kernel_rfl) rfl (fun _ _ _ h => h) (by rfl) (by assumption) ?_ ?_
      rotate_left
      · (intro w hSw; (try dsimp only at hSw); go_simp <;> with_reducible rfl)
      simp only [Act.put, List.setIfInBounds_toArray, List.set_cons_zero, List.set_cons_succ]
      refine takeVal 7 (some 33) ?_ rfl (by kernel_rfl) (by kernel_rfl) (by kernel_rfl) rfl (fun _ _ _ h => h) (by rfl) (by assumption) ?_ ?_
      rotate_left
      · (intro w hSw; (try dsimp only at hSw); go_simp <;> with_reducible rfl)
      simp only [Act.put, List.setIfInBounds_toArray, List.set_cons_zero, List.set_cons_succ]
      obtain ⟨xa, xn, xc, hvx⟩ := own_shape hans13
      subst hvx
      have r0 := row_cell hrw13
      have z0 := row_frozen hrw13
      have RW := hide (set1 (.slice xa xn xc) hrw13)
      have OW := hide (own_set (u := .slice xa xn xc) hans13 hrw13 (by decide))
      have BW := hide ((hB13).setCell (p := ⟨w2.heap.size, 0, none⟩) (by show w2.heap.size ≤ w2.heap.size; omega) (.slice xa xn xc))
      refine wpAnyH_ready (rs := [9]) (by kernel_rfl) (by simp) ?_
      refine AllReadyH.cons rfl (fun K hK => ?_) AllReadyH.nil
      go_simp
      refine hK.out _ _ (⟨((World.cell?_setCell_other _ _ _ _ (by simp <;> omega)).trans hHeld.1), ((World.cell?_setCell_other _ _ _ _ (by simp <;> omega)).trans hHeld.2.1), ((World.cell?_setCell_other _ _ _ _ (by simp <;> omega)).trans hHeld.2.2.1), ((World.cell?_setCell_other _ _ _ _ (by simp <;> omega)).trans hHeld.2.2.2.1), ((World.cell?_setCell_other _ _ _ _ (by simp <;> omega)).trans hHeld.2.2.2.2)⟩) (fun hHeld2 => ?_)
      clear hK K hHeld
      have hHeld := hHeld2; clear hHeld2
      try simp only [Act.put, List.setIfInBounds_toArray, List.set_cons_zero, List.set_cons_succ]
      refine takeVal 10 (some 7) ?_ rfl (by kernel_rfl) (by kernel_rfl) (by kernel_rfl) rfl (fun _ _ _ h => h) (by rfl) (by assumption) ?_ ?_
      rotate_left
      · (intro w hSw; (try dsimp only at hSw); go_simp <;> with_reducible rfl)
      simp only [Act.put, List.setIfInBounds_toArray, List.set_cons_zero, List.set_cons_succ]
      refine wpAnyH_done (by kernel_rfl) ?_ _
      go_wp2
      go_meet
      case rel => exact ⟨w2.heap.size, .slice xa xn xc, rfl, rfl, unhide RW, by omega, own_based (unhide OW) (by omega), unhide BW⟩
  case rest =>
    obtain ⟨bx6, vx6, rfl, rfl, hx6, hlo6, hown6, hb6⟩ := hcut
    obtain ⟨w3, rfl⟩ : ∃ x, x = wc := ⟨_, rfl⟩
    replace E0 := hide (row_up (w := w2) (unhide E0) hb6)
    replace E1 := hide (row_up (w := w2) (unhide E1) hb6)
    have z_w3 : w2.heap.size ≤ w3.heap.size := hb6.size
    replace BB := hide ((unhide BB).trans (hb6.mono (by show w.heap.size ≤ w2.heap.size; omega)))
    clear hb6
    have y_w3 : w.heap.size + 1 < w3.heap.size := by omega
    have X6 := hide hx6
    clear hx6
    have O6 := hide hown6
    have RO6 := hide (World.ownsRow.lt (unhide O6))
    clear hown6
    obtain ⟨xa6, xn6, xc6, hv6⟩ := own_shape (unhide O6)
    subst hv6
    have q_E0 := row_cell (unhide E0)
    go_wp2_with fail
    clear q_E0
    refine (toDisk_any a0 cap0 l0 w3 hs0 ((unhide HA).up (unhide BB))).mono ?_
    rintro e w4 ⟨v8, rfl, own8, hb4⟩
    replace E0 := hide (row_up (w := w3) (unhide E0) hb4)
    replace E1 := hide (row_up (w := w3) (unhide E1) hb4)
    replace X6 := hide (row_up (w := w3) (unhide X6) hb4)
    replace O6 := hide (own_stays (w := w3) (unhide O6) hb4)
    have z_w4 : w3.heap.size ≤ w4.heap.size := hb4.size
    replace BB := hide ((unhide BB).trans (hb4.mono (by show w.heap.size ≤ w3.heap.size; omega)))
    clear hb4
    have y_w4 : w.heap.size + 1 < w4.heap.size := by omega
    have O8 := hide own8
    have RO8 := hide (World.ownsRow.lt (unhide O8))
    clear own8
    obtain ⟨xa8, xn8, xc8, hv8⟩ := own_shape (unhide O8)
    subst hv8
    go_wp2
    have hx : (w4.alloc (.cells #[.slice xa8 xn8 xc8] 26)).heap[w4.heap.size]? = some (.cells #[.slice xa8 xn8 xc8] 26 (0, 0)) := heap_alloc_new _ _
    have hbx := (Below.refl w4.heap.size w4).alloc (Nat.le_refl _) (.cells #[.slice xa8 xn8 xc8] 26)
    have hzx : (w4.alloc (.cells #[.slice xa8 xn8 xc8] 26)).heap.size = w4.heap.size + 1 := by simp
    obtain ⟨w5, hWx⟩ : ∃ W, W = w4.alloc (.cells #[.slice xa8 xn8 xc8] 26) := ⟨_, rfl⟩
    rw [← hWx] at hx hbx hzx ⊢
    clear hWx
    replace E0 := hide (row_up (w := w4) (unhide E0) hbx)
    replace E1 := hide (row_up (w := w4) (unhide E1) hbx)
    replace X6 := hide (row_up (w := w4) (unhide X6) hbx)
    replace O6 := hide (own_stays (w := w4) (unhide O6) hbx)
    replace O8 := hide (own_stays (w := w4) (unhide O8) hbx)
    have z_w5 : w4.heap.size ≤ w5.heap.size := hbx.size
    replace BB := hide ((unhide BB).trans (hbx.mono (by show w.heap.size ≤ w4.heap.size; omega)))
    clear hbx
    have y_w5 : w.heap.size + 1 < w5.heap.size := by omega
    have zz_w5 : w4.heap.size < w5.heap.size := by omega
    clear hzx
    have X8 := hide hx
    clear hx
    go_cut [9, 10] from 16 (fun s9 s10 wc => ∃ (bx : Nat) (vx : Value), s9 = .pointer (some ⟨bx, 0, none⟩) ∧ s10 = .bool d ∧ wc.heap[bx]? = some (.cells #[vx] 26 (0, 0)) ∧ w5.heap.size ≤ bx ∧ OwnF w5.heap.size wc vx ans ∧ Below w5.heap.size w5 wc)
    case first =>
      refine wp_region_held_drew (S := fun w' => w'.cell? ⟨w4.heap.size, 0, none⟩ = some (.slice xa8 xn8 xc8) ∧ w'.cell? ⟨w.heap.size + 1, 0, none⟩ = some (.int .i64 x1.kind) ∧ w'.cell? ⟨w.heap.size + 1, 1, none⟩ = some (.string x1.name) ∧ w'.cell? ⟨w.heap.size + 1, 2, none⟩ = some (.string x1.text) ∧ w'.cell? ⟨w.heap.size + 1, 3, none⟩ = some (.string x1.to)) (by kernel_rfl) (⟨row_cell (w := w5.drew) (unhide X8), (row_cell4 (w := w5.drew) (unhide E1)).1, (row_cell4 (w := w5.drew) (unhide E1)).2.1, (row_cell4 (w := w5.drew) (unhide E1)).2.2.1, (row_cell4 (w := w5.drew) (unhide E1)).2.2.2⟩) (fun hHeld => ?_)
      refine takeVal 0 (some 37) ?_ rfl (by kernel_rfl) (by kernel_rfl) (by kernel_rfl) rfl (fun _ _ _ h => h) (by rfl) (by assumption) ?_ ?_
      rotate_left
      · (intro w hSw; (try dsimp only at hSw); go_simp <;> with_reducible rfl)
      simp only [Act.put, List.setIfInBounds_toArray, List.set_cons_zero, List.set_cons_succ]
      refine takeVal 1 (some 38) ?_ rfl (by kernel_rfl) (by kernel_rfl) (by kernel_rfl) rfl (fun _ _ _ h => h) (by rfl) (by assumption) ?_ ?_
      rotate_left
      · (intro w hSw; (try dsimp only at hSw); go_simp <;> with_reducible rfl)
      simp only [Act.put, List.setIfInBounds_toArray, List.set_cons_zero, List.set_cons_succ]
      have hB0 : Below w5.heap.size w5 w5.drew := (Below.refl _ _).drew
      refine wpAnyH_ready (rs := [2, 7]) (by kernel_rfl) (by simp) ?_
      refine (AllReadyH.cons rfl (fun K hK => ?_) (AllReadyH.cons rfl (fun K hK => ?_) AllReadyH.nil))
      · skip
        go_simp
        refine (toAct_any x1 (w5.drew)).mono ?_
        rintro e v1w ⟨rfl, hbk1⟩
        go_wp2_with fail
        refine hK.out _ _ (⟨(cell_on (w := w5.drew) hbk1 hHeld.1), (cell_on (w := w5.drew) hbk1 hHeld.2.1), (cell_on (w := w5.drew) hbk1 hHeld.2.2.1), (cell_on (w := w5.drew) hbk1 hHeld.2.2.2.1), (cell_on (w := w5.drew) hbk1 hHeld.2.2.2.2)⟩) (fun hHeld2 => ?_)
        clear hK K hHeld
        have hHeld := hHeld2; clear hHeld2
        try simp only [Act.put, List.setIfInBounds_toArray, List.set_cons_zero, List.set_cons_succ]
        have hB1 : Below w5.heap.size w5 v1w := (hB0).trans (hbk1.mono (by have := (hB0).size; first | exact this | omega))
        have hz1 : w5.heap.size ≤ v1w.heap.size := (hB1).size
        refine wpAnyH_ready (rs := [3, 7]) (by kernel_rfl) (by simp) ?_
        refine (AllReadyH.cons rfl (fun K hK => ?_) (AllReadyH.cons rfl (fun K hK => ?_) AllReadyH.nil))
        · skip
          go_simp
          refine (unhide CI _ _ (v1w) (own_stays (unhide O8) (hB1))).mono ?_
          rintro e v2w ⟨vv2, rfl, hans2, hbk2⟩
          go_wp2_with fail
          refine hK.out _ _ (⟨(cell_on (w := v1w) hbk2 hHeld.1), (cell_on (w := v1w) hbk2 hHeld.2.1), (cell_on (w := v1w) hbk2 hHeld.2.2.1), (cell_on (w := v1w) hbk2 hHeld.2.2.2.1), (cell_on (w := v1w) hbk2 hHeld.2.2.2.2)⟩) (fun hHeld2 => ?_)
          clear hK K hHeld
          have hHeld := hHeld2; clear hHeld2
          try simp only [Act.put, List.setIfInBounds_toArray, List.set_cons_zero, List.set_cons_succ]
          have hB2 : Below w5.heap.size w5 v2w := (hB1).trans (hbk2.mono (by have := (hB1).size; first | exact this | omega))
          have hz2 : w5.heap.size ≤ v2w.heap.size := (hB2).size
          refine takeVal 4 (some 36) ?_ rfl (by kernel_rfl) (by kernel_rfl) (by kernel_rfl) rfl (fun _ _ _ h => h) (by rfl) (by assumption) ?_ ?_
          rotate_left
          · (intro w hSw; (try dsimp only at hSw); go_simp <;> with_reducible rfl)
          simp only [Act.put, List.setIfInBounds_toArray, List.set_cons_zero, List.set_cons_succ]
          refine takeVal 5 (some 41) ?_ rfl (by kernel_rfl) (by kernel_rfl) (by kernel_rfl) rfl (fun _ _ _ h => h) (by rfl) (by assumption) ?_ ?_
          rotate_left
          · (intro w hSw; (try dsimp only at hSw); go_simp <;> with_reducible rfl)
          simp only [Act.put, List.setIfInBounds_toArray, List.set_cons_zero, List.set_cons_succ]
          refine takeVal 6 (some 42) ?_ rfl (by kernel_rfl) (by kernel_rfl) (by kernel_rfl) rfl (fun _ _ _ h => h) (by rfl) (by assumption) ?_ ?_
          rotate_left
          · (intro w hSw; (try dsimp only at hSw); go_simp <;> with_reducible rfl)
          simp only [Act.put, List.setIfInBounds_toArray, List.set_cons_zero, List.set_cons_succ]
          refine wpAnyH_ready (rs := [7]) (by kernel_rfl) (by simp) ?_
          refine (AllReadyH.cons rfl (fun K hK => ?_) AllReadyH.nil)
          go_simp
          refine hK.out _ _ (⟨(cell_on ((Below.refl _ _).alloc (Nat.le_refl _) _) hHeld.1), (cell_on ((Below.refl _ _).alloc (Nat.le_refl _) _) hHeld.2.1), (cell_on ((Below.refl _ _).alloc (Nat.le_refl _) _) hHeld.2.2.1), (cell_on ((Below.refl _ _).alloc (Nat.le_refl _) _) hHeld.2.2.2.1), (cell_on ((Below.refl _ _).alloc (Nat.le_refl _) _) hHeld.2.2.2.2)⟩) (fun hHeld2 => ?_)
          clear hK K hHeld
          have hHeld := hHeld2; clear hHeld2
          try simp only [Act.put, List.setIfInBounds_toArray, List.set_cons_zero, List.set_cons_succ]
          have hrw3 : (v2w.alloc (.cells #[.slice none 0 0] 26)).heap[v2w.heap.size]? = some (.cells #[.slice none 0 0] 26 (0, 0)) := heap_alloc_new v2w _
          have hbk3 : Below v2w.heap.size v2w (v2w.alloc (.cells #[.slice none 0 0] 26)) := ((Below.refl v2w.heap.size v2w).alloc (Nat.le_refl _) (.cells #[.slice none 0 0] 26))
          have hbs3 : w5.heap.size ≤ v2w.heap.size := (hB2).size
          obtain ⟨v3w, hwa3⟩ : ∃ W, W = (v2w.alloc (.cells #[.slice none 0 0] 26)) := ⟨_, rfl⟩
          rw [← hwa3] at hrw3 hbk3 hHeld ⊢
          clear hwa3
          have hB3 : Below w5.heap.size w5 v3w := (hB2).trans (hbk3.mono (by have := (hB2).size; first | exact this | omega))
          have hz3 : w5.heap.size ≤ v3w.heap.size := (hB3).size
          have hlt3 : v2w.heap.size < v3w.heap.size := row_lt hrw3
          have hans2_3 := own_stays (w := v2w) hans2 hbk3
          obtain ⟨xa, xn, xc, hvx⟩ := own_shape hans2_3
          subst hvx
          have r0 := row_cell hrw3
          have z0 := row_frozen hrw3
          have RW := hide (set1 (.slice xa xn xc) hrw3)
          have OW := hide (own_set (u := .slice xa xn xc) hans2_3 hrw3 (by decide))
          have BW := hide ((hB3).setCell (p := ⟨v2w.heap.size, 0, none⟩) (by show w5.heap.size ≤ v2w.heap.size; omega) (.slice xa xn xc))
          refine wpAnyH_ready (rs := [8]) (by kernel_rfl) (by simp) ?_
          refine AllReadyH.cons rfl (fun K hK => ?_) AllReadyH.nil
          go_simp
          refine hK.out _ _ (⟨((World.cell?_setCell_other _ _ _ _ (by simp <;> omega)).trans hHeld.1), ((World.cell?_setCell_other _ _ _ _ (by simp <;> omega)).trans hHeld.2.1), ((World.cell?_setCell_other _ _ _ _ (by simp <;> omega)).trans hHeld.2.2.1), ((World.cell?_setCell_other _ _ _ _ (by simp <;> omega)).trans hHeld.2.2.2.1), ((World.cell?_setCell_other _ _ _ _ (by simp <;> omega)).trans hHeld.2.2.2.2)⟩) (fun hHeld2 => ?_)
          clear hK K hHeld
          have hHeld := hHeld2; clear hHeld2
          try simp only [Act.put, List.setIfInBounds_toArray, List.set_cons_zero, List.set_cons_succ]
          refine takeVal 9 (some 10) ?_ rfl (by kernel_rfl) (by kernel_rfl) (by kernel_rfl) rfl (fun _ _ _ h => h) (by rfl) (by assumption) ?_ ?_
          rotate_left
          · (intro w hSw; (try dsimp only at hSw); go_simp <;> with_reducible rfl)
          simp only [Act.put, List.setIfInBounds_toArray, List.set_cons_zero, List.set_cons_succ]
          refine wpAnyH_done (by kernel_rfl) ?_ _
          go_wp2
          go_meet
          case rel => exact ⟨v2w.heap.size, .slice xa xn xc, rfl, rfl, unhide RW, by omega, own_based (unhide OW) (by omega), unhide BW⟩
        · skip
          go_simp
          refine hK.out _ _ (⟨(cell_on ((Below.refl _ _).alloc (Nat.le_refl _) _) hHeld.1), (cell_on ((Below.refl _ _).alloc (Nat.le_refl _) _) hHeld.2.1), (cell_on ((Below.refl _ _).alloc (Nat.le_refl _) _) hHeld.2.2.1), (cell_on ((Below.refl _ _).alloc (Nat.le_refl _) _) hHeld.2.2.2.1), (cell_on ((Below.refl _ _).alloc (Nat.le_refl _) _) hHeld.2.2.2.2)⟩) (fun hHeld2 => ?_)
          clear hK K hHeld
          have hHeld := hHeld2; clear hHeld2
          try simp only [Act.put, List.setIfInBounds_toArray, List.set_cons_zero, List.set_cons_succ]
          have hrw4 : (v1w.alloc (.cells #[.slice none 0 0] 26)).heap[v1w.heap.size]? = some (.cells #[.slice none 0 0] 26 (0, 0)) := heap_alloc_new v1w _
          have hbk4 : Below v1w.heap.size v1w (v1w.alloc (.cells #[.slice none 0 0] 26)) := ((Below.refl v1w.heap.size v1w).alloc (Nat.le_refl _) (.cells #[.slice none 0 0] 26))
          have hbs4 : w5.heap.size ≤ v1w.heap.size := (hB1).size
          obtain ⟨v4w, hwa4⟩ : ∃ W, W = (v1w.alloc (.cells #[.slice none 0 0] 26)) := ⟨_, rfl⟩
          rw [← hwa4] at hrw4 hbk4 hHeld ⊢
          clear hwa4
          have hB4 : Below w5.heap.size w5 v4w := (hB1).trans (hbk4.mono (by have := (hB1).size; first | exact this | omega))
          have hz4 : w5.heap.size ≤ v4w.heap.size := (hB4).size
          have hlt4 : v1w.heap.size < v4w.heap.size := row_lt hrw4
          refine wpAnyH_ready (rs := [3]) (by kernel_rfl) (by simp) ?_
          refine (AllReadyH.cons rfl (fun K hK => ?_) AllReadyH.nil)
          go_simp
          refine (unhide CI _ _ (v4w) (own_stays (unhide O8) (hB4))).mono ?_
          rintro e v5w ⟨vv5, rfl, hans5, hbk5⟩
          go_wp2_with fail
          refine hK.out _ _ (⟨(cell_on (w := v4w) hbk5 hHeld.1), (cell_on (w := v4w) hbk5 hHeld.2.1), (cell_on (w := v4w) hbk5 hHeld.2.2.1), (cell_on (w := v4w) hbk5 hHeld.2.2.2.1), (cell_on (w := v4w) hbk5 hHeld.2.2.2.2)⟩) (fun hHeld2 => ?_)
          clear hK K hHeld
          have hHeld := hHeld2; clear hHeld2
          try simp only [Act.put, List.setIfInBounds_toArray, List.set_cons_zero, List.set_cons_succ]
          have hB5 : Below w5.heap.size w5 v5w := (hB4).trans (hbk5.mono (by have := (hB4).size; first | exact this | omega))
          have hz5 : w5.heap.size ≤ v5w.heap.size := (hB5).size
          have hrw5 := row_up (w := v4w) hrw4 hbk5
          refine takeVal 4 (some 36) ?_ rfl (by kernel_rfl) (by kernel_rfl) (by kernel_rfl) rfl (fun _ _ _ h => h) (by rfl) (by assumption) ?_ ?_
          rotate_left
          · (intro w hSw; (try dsimp only at hSw); go_simp <;> with_reducible rfl)
          simp only [Act.put, List.setIfInBounds_toArray, List.set_cons_zero, List.set_cons_succ]
          refine takeVal 5 (some 41) ?_ rfl (by kernel_rfl) (by kernel_rfl) (by kernel_rfl) rfl (fun _ _ _ h => h) (by rfl) (by assumption) ?_ ?_
          rotate_left
          · (intro w hSw; (try dsimp only at hSw); go_simp <;> with_reducible rfl)
          simp only [Act.put, List.setIfInBounds_toArray, List.set_cons_zero, List.set_cons_succ]
          refine takeVal 6 (some 42) ?_ rfl (by kernel_rfl) (by kernel_rfl) (by kernel_rfl) rfl (fun _ _ _ h => h) (by rfl) (by assumption) ?_ ?_
          rotate_left
          · (intro w hSw; (try dsimp only at hSw); go_simp <;> with_reducible rfl)
          simp only [Act.put, List.setIfInBounds_toArray, List.set_cons_zero, List.set_cons_succ]
          obtain ⟨xa, xn, xc, hvx⟩ := own_shape hans5
          subst hvx
          have r0 := row_cell hrw5
          have z0 := row_frozen hrw5
          have RW := hide (set1 (.slice xa xn xc) hrw5)
          have OW := hide (own_set (u := .slice xa xn xc) hans5 hrw5 (by decide))
          have BW := hide ((hB5).setCell (p := ⟨v1w.heap.size, 0, none⟩) (by show w5.heap.size ≤ v1w.heap.size; omega) (.slice xa xn xc))
          refine wpAnyH_ready (rs := [8]) (by kernel_rfl) (by simp) ?_
          refine AllReadyH.cons rfl (fun K hK => ?_) AllReadyH.nil
          go_simp
          refine hK.out _ _ (⟨((World.cell?_setCell_other _ _ _ _ (by simp <;> omega)).trans hHeld.1), ((World.cell?_setCell_other _ _ _ _ (by simp <;> omega)).trans hHeld.2.1), ((World.cell?_setCell_other _ _ _ _ (by simp <;> omega)).trans hHeld.2.2.1), ((World.cell?_setCell_other _ _ _ _ (by simp <;> omega)).trans hHeld.2.2.2.1), ((World.cell?_setCell_other _ _ _ _ (by simp <;> omega)).trans hHeld.2.2.2.2)⟩) (fun hHeld2 => ?_)
          clear hK K hHeld
          have hHeld := hHeld2; clear hHeld2
          try simp only [Act.put, List.setIfInBounds_toArray, List.set_cons_zero, List.set_cons_succ]
          refine takeVal 9 (some 10) ?_ rfl (by kernel_rfl) (by kernel_rfl) (by kernel_rfl) rfl (fun _ _ _ h => h) (by rfl) (by assumption) ?_ ?_
          rotate_left
          · (intro w hSw; (try dsimp only at hSw); go_simp <;> with_reducible rfl)
          simp only [Act.put, List.setIfInBounds_toArray, List.set_cons_zero, List.set_cons_succ]
          refine wpAnyH_done (by kernel_rfl) ?_ _
          go_wp2
          go_meet
          case rel => exact ⟨v1w.heap.size, .slice xa xn xc, rfl, rfl, unhide RW, by omega, own_based (unhide OW) (by omega), unhide BW⟩
      · skip
        go_simp
        refine hK.out _ _ (⟨(cell_on ((Below.refl _ _).alloc (Nat.le_refl _) _) hHeld.1), (cell_on ((Below.refl _ _).alloc (Nat.le_refl _) _) hHeld.2.1), (cell_on ((Below.refl _ _).alloc (Nat.le_refl _) _) hHeld.2.2.1), (cell_on ((Below.refl _ _).alloc (Nat.le_refl _) _) hHeld.2.2.2.1), (cell_on ((Below.refl _ _).alloc (Nat.le_refl _) _) hHeld.2.2.2.2)⟩) (fun hHeld2 => ?_)
        clear hK K hHeld
        have hHeld := hHeld2; clear hHeld2
        try simp only [Act.put, List.setIfInBounds_toArray, List.set_cons_zero, List.set_cons_succ]
        have hrw6 : (w5.alloc (.cells #[.slice none 0 0] 26)).drew.heap[w5.heap.size]? = some (.cells #[.slice none 0 0] 26 (0, 0)) := heap_alloc_new w5 _
        have hbk6 : Below w5.heap.size w5 (w5.alloc (.cells #[.slice none 0 0] 26)).drew := ((Below.refl w5.heap.size w5).alloc (Nat.le_refl _) (.cells #[.slice none 0 0] 26)).drew
        have hbs6 : w5.heap.size ≤ w5.heap.size := Nat.le_refl _
        obtain ⟨v6w, hwa6⟩ : ∃ W, W = (w5.alloc (.cells #[.slice none 0 0] 26)).drew := ⟨_, rfl⟩
        rw [← hwa6] at hrw6 hbk6 hHeld ⊢
        clear hwa6
        have hB6 : Below w5.heap.size w5 v6w := hbk6
        have hz6 : w5.heap.size ≤ v6w.heap.size := (hB6).size
        have hlt6 : w5.heap.size < v6w.heap.size := row_lt hrw6
        refine wpAnyH_ready (rs := [2]) (by kernel_rfl) (by simp) ?_
        refine (AllReadyH.cons rfl (fun K hK => ?_) AllReadyH.nil)
        go_simp
        refine (toAct_any x1 (v6w)).mono ?_
        rintro e v7w ⟨rfl, hbk7⟩
        go_wp2_with fail
        refine hK.out _ _ (⟨(cell_on (w := v6w) hbk7 hHeld.1), (cell_on (w := v6w) hbk7 hHeld.2.1), (cell_on (w := v6w) hbk7 hHeld.2.2.1), (cell_on (w := v6w) hbk7 hHeld.2.2.2.1), (cell_on (w := v6w) hbk7 hHeld.2.2.2.2)⟩) (fun hHeld2 => ?_)
        clear hK K hHeld
        have hHeld := hHeld2; clear hHeld2
        try simp only [Act.put, List.setIfInBounds_toArray, List.set_cons_zero, List.set_cons_succ]
        have hB7 : Below w5.heap.size w5 v7w := (hB6).trans (hbk7.mono (by have := (hB6).size; first | exact this | omega))
        have hz7 : w5.heap.size ≤ v7w.heap.size := (hB7).size
        have hrw7 := row_up (w := v6w) hrw6 hbk7
        refine wpAnyH_ready (rs := [3]) (by kernel_rfl) (by simp) ?_
        refine (AllReadyH.cons rfl (fun K hK => ?_) AllReadyH.nil)
        go_simp
        refine (unhide CI _ _ (v7w) (own_stays (unhide O8) (hB7))).mono ?_
        rintro e v8w ⟨vv8, rfl, hans8, hbk8⟩
        go_wp2_with fail
        refine hK.out _ _ (⟨(cell_on (w := v7w) hbk8 hHeld.1), (cell_on (w := v7w) hbk8 hHeld.2.1), (cell_on (w := v7w) hbk8 hHeld.2.2.1), (cell_on (w := v7w) hbk8 hHeld.2.2.2.1), (cell_on (w := v7w) hbk8 hHeld.2.2.2.2)⟩) (fun hHeld2 => ?_)
        clear hK K hHeld
        have hHeld := hHeld2; clear hHeld2
        try simp only [Act.put, List.setIfInBounds_toArray, List.set_cons_zero, List.set_cons_succ]
        have hB8 : Below w5.heap.size w5 v8w := (hB7).trans (hbk8.mono (by have := (hB7).size; first | exact this | omega))
        have hz8 : w5.heap.size ≤ v8w.heap.size := (hB8).size
        have hrw8 := row_up (w := v7w) hrw7 hbk8
        refine takeVal 4 (some 36) ?_ rfl (by kernel_rfl) (by kernel_rfl) (by kernel_rfl) rfl (fun _ _ _ h => h) (by rfl) (by assumption) ?_ ?_
        rotate_left
        · (intro w hSw; (try dsimp only at hSw); go_simp <;> with_reducible rfl)
        simp only [Act.put, List.setIfInBounds_toArray, List.set_cons_zero, List.set_cons_succ]
        refine takeVal 5 (some 41) ?_ rfl (by kernel_rfl) (by kernel_rfl) (by kernel_rfl) rfl (fun _ _ _ h => h) (by rfl) (by assumption) ?_ ?_
        rotate_left
        · (intro w hSw; (try dsimp only at hSw); go_simp <;> with_reducible rfl)
        simp only [Act.put, List.setIfInBounds_toArray, List.set_cons_zero, List.set_cons_succ]
        refine takeVal 6 (some 42) ?_ rfl (by kernel_rfl) (by kernel_rfl) (by kernel_rfl) rfl (fun _ _ _ h => h) (by rfl) (by assumption) ?_ ?_
        rotate_left
        · (intro w hSw; (try dsimp only at hSw); go_simp <;> with_reducible rfl)
        simp only [Act.put, List.setIfInBounds_toArray, List.set_cons_zero, List.set_cons_succ]
        obtain ⟨xa, xn, xc, hvx⟩ := own_shape hans8
        subst hvx
        have r0 := row_cell hrw8
        have z0 := row_frozen hrw8
        have RW := hide (set1 (.slice xa xn xc) hrw8)
        have OW := hide (own_set (u := .slice xa xn xc) hans8 hrw8 (by decide))
        have BW := hide ((hB8).setCell (p := ⟨w5.heap.size, 0, none⟩) (by show w5.heap.size ≤ w5.heap.size; omega) (.slice xa xn xc))
        refine wpAnyH_ready (rs := [8]) (by kernel_rfl) (by simp) ?_
        refine AllReadyH.cons rfl (fun K hK => ?_) AllReadyH.nil
        go_simp
        refine hK.out _ _ (⟨((World.cell?_setCell_other _ _ _ _ (by simp <;> omega)).trans hHeld.1), ((World.cell?_setCell_other _ _ _ _ (by simp <;> omega)).trans hHeld.2.1), ((World.cell?_setCell_other _ _ _ _ (by simp <;> omega)).trans hHeld.2.2.1), ((World.cell?_setCell_other _ _ _ _ (by simp <;> omega)).trans hHeld.2.2.2.1), ((World.cell?_setCell_other _ _ _ _ (by simp <;> omega)).trans hHeld.2.2.2.2)⟩) (fun hHeld2 => ?_)
        clear hK K hHeld
        have hHeld := hHeld2; clear hHeld2
        try simp only [Act.put, List.setIfInBounds_toArray, List.set_cons_zero, List.set_cons_succ]
        refine takeVal 9 (some 10) ?_ rfl (by kernel_rfl) (by kernel_rfl) (by kernel_rfl) rfl (fun _ _ _ h => h) (by rfl) (by assumption) ?_ ?_
        rotate_left
        · (intro w hSw; (try dsimp only at hSw); go_simp <;> with_reducible rfl)
        simp only [Act.put, List.setIfInBounds_toArray, List.set_cons_zero, List.set_cons_succ]
        refine wpAnyH_done (by kernel_rfl) ?_ _
        go_wp2
        go_meet
        case rel => exact ⟨w5.heap.size, .slice xa xn xc, rfl, rfl, unhide RW, by omega, own_based (unhide OW) (by omega), unhide BW⟩
    case rest =>
      obtain ⟨bx9, vx9, rfl, rfl, hx9, hlo9, hown9, hb9⟩ := hcut
      obtain ⟨w6, rfl⟩ : ∃ x, x = wc := ⟨_, rfl⟩
      replace E0 := hide (row_up (w := w5) (unhide E0) hb9)
      replace E1 := hide (row_up (w := w5) (unhide E1) hb9)
      replace X6 := hide (row_up (w := w5) (unhide X6) hb9)
      replace X8 := hide (row_up (w := w5) (unhide X8) hb9)
      replace O6 := hide (own_stays (w := w5) (unhide O6) hb9)
      replace O8 := hide (own_stays (w := w5) (unhide O8) hb9)
      have z_w6 : w5.heap.size ≤ w6.heap.size := hb9.size
      replace BB := hide ((unhide BB).trans (hb9.mono (by show w.heap.size ≤ w5.heap.size; omega)))
      clear hb9
      have y_w6 : w.heap.size + 1 < w6.heap.size := by omega
      have X9 := hide hx9
      clear hx9
      have O9 := hide hown9
      have RO9 := hide (World.ownsRow.lt (unhide O9))
      clear hown9
      obtain ⟨xa9, xn9, xc9, hv9⟩ := own_shape (unhide O9)
      subst hv9
      have q_X9 := row_cell (unhide X9)
      have q_X6 := row_cell (unhide X6)
      go_wp2_with fail
      clear q_X9 q_X6
      refine (eqDisk_same ans _ _ _ _ w6 hal (unhide O9) (unhide O6)).mono ?_
      rintro e w7 ⟨rfl, hb7⟩
      replace E0 := hide (row_up (w := w6) (unhide E0) hb7)
      replace E1 := hide (row_up (w := w6) (unhide E1) hb7)
      replace X6 := hide (row_up (w := w6) (unhide X6) hb7)
      replace X8 := hide (row_up (w := w6) (unhide X8) hb7)
      replace X9 := hide (row_up (w := w6) (unhide X9) hb7)
      replace O6 := hide (own_stays (w := w6) (unhide O6) hb7)
      replace O8 := hide (own_stays (w := w6) (unhide O8) hb7)
      replace O9 := hide (own_stays (w := w6) (unhide O9) hb7)
      have z_w7 : w6.heap.size ≤ w7.heap.size := hb7.size
      replace BB := hide ((unhide BB).trans (hb7.mono (by show w.heap.size ≤ w6.heap.size; omega)))
      clear hb7
      have y_w7 : w.heap.size + 1 < w7.heap.size := by omega
      go_wp2
      have s8 := row_cell (unhide X8)
      have sE := row_cell (unhide E0)
      refine wp_region_held_drew (S := fun w' => w'.cell? ⟨w4.heap.size, 0, none⟩ = some (.slice xa8 xn8 xc8) ∧ w'.cell? ⟨w.heap.size, 0, none⟩ = some (.slice a0 l0.length cap0)) (by kernel_rfl) (⟨s8, sE⟩) (fun hHeld => ?_)
      refine takeVal 0 (some 52) ?_ rfl (by kernel_rfl) (by kernel_rfl) (by kernel_rfl) rfl (fun _ _ _ h => h) (by rfl) (by assumption) ?_ ?_
      rotate_left
      · (intro w hSw; (try dsimp only at hSw); go_simp <;> with_reducible rfl)
      simp only [Act.put, List.setIfInBounds_toArray, List.set_cons_zero, List.set_cons_succ]
      refine takeVal 1 (some 53) ?_ rfl (by kernel_rfl) (by kernel_rfl) (by kernel_rfl) rfl (fun _ _ _ h => h) (by rfl) (by assumption) ?_ ?_
      rotate_left
      · (intro w hSw; (try dsimp only at hSw); go_simp <;> with_reducible rfl)
      simp only [Act.put, List.setIfInBounds_toArray, List.set_cons_zero, List.set_cons_succ]
      refine wpAnyH_ready (rs := [2]) (by kernel_rfl) (by simp) ?_
      refine AllReadyH.cons rfl (fun K hK => ?_) AllReadyH.nil
      go_simp
      refine (toDisk_any a0 cap0 l0 w7.drew hs0 ((unhide HA).up (unhide BB).drew)).mono ?_
      rintro e w8 ⟨v12, rfl, own12, hb8⟩
      go_wp2_with fail
      refine hK.out _ _ (⟨cell_on (w := w7.drew) hb8 s8, cell_on (w := w7.drew) hb8 sE⟩) (fun hHeld2 => ?_)
      clear hK K hHeld
      have hHeld := hHeld2; clear hHeld2
      try simp only [Act.put, List.setIfInBounds_toArray, List.set_cons_zero, List.set_cons_succ]
      refine wpAnyH_ready (rs := [3]) (by kernel_rfl) (by simp) ?_
      refine AllReadyH.cons rfl (fun K hK => ?_) AllReadyH.nil
      go_simp
      refine (eqDisk_same l0 _ v12 _ _ w8 hs0 (own_stays (w := w7.drew) (unhide O8) hb8) own12).mono ?_
      rintro e w9 ⟨rfl, hb9⟩
      go_wp2_with fail
      refine hK.out _ _ (⟨cell_on hb9 hHeld.1, cell_on hb9 hHeld.2⟩) (fun hHeld2 => ?_)
      clear hK K hHeld
      have hHeld := hHeld2; clear hHeld2
      try simp only [Act.put, List.setIfInBounds_toArray, List.set_cons_zero, List.set_cons_succ]
      refine takeVal 4 (some 56) ?_ rfl (by kernel_rfl) (by kernel_rfl) (by kernel_rfl) rfl (fun _ _ _ h => h) (by rfl) (by assumption) ?_ ?_
      rotate_left
      · (intro w hSw; (try dsimp only at hSw); go_simp <;> with_reducible rfl)
      simp only [Act.put, List.setIfInBounds_toArray, List.set_cons_zero, List.set_cons_succ]
      refine wpAnyH_done (by kernel_rfl) ?_ _
      clear own12 s8 sE hHeld
      replace E0 := hide (row_up (w := w7.drew) (unhide E0) hb8)
      replace E1 := hide (row_up (w := w7.drew) (unhide E1) hb8)
      replace X6 := hide (row_up (w := w7.drew) (unhide X6) hb8)
      replace X8 := hide (row_up (w := w7.drew) (unhide X8) hb8)
      replace X9 := hide (row_up (w := w7.drew) (unhide X9) hb8)
      replace O6 := hide (own_stays (w := w7.drew) (unhide O6) hb8)
      replace O8 := hide (own_stays (w := w7.drew) (unhide O8) hb8)
      replace O9 := hide (own_stays (w := w7.drew) (unhide O9) hb8)
      have z_w8 : w7.heap.size ≤ w8.heap.size := hb8.size
      replace BB := hide ((unhide BB).drew.trans (hb8.mono (by show w.heap.size ≤ w7.heap.size; omega)))
      clear hb8
      have y_w8 : w.heap.size + 1 < w8.heap.size := by omega
      replace E0 := hide (row_up (w := w8) (unhide E0) hb9)
      replace E1 := hide (row_up (w := w8) (unhide E1) hb9)
      replace X6 := hide (row_up (w := w8) (unhide X6) hb9)
      replace X8 := hide (row_up (w := w8) (unhide X8) hb9)
      replace X9 := hide (row_up (w := w8) (unhide X9) hb9)
      replace O6 := hide (own_stays (w := w8) (unhide O6) hb9)
      replace O8 := hide (own_stays (w := w8) (unhide O8) hb9)
      replace O9 := hide (own_stays (w := w8) (unhide O9) hb9)
      have z_w9 : w8.heap.size ≤ w9.heap.size := hb9.size
      replace BB := hide ((unhide BB).trans (hb9.mono (by show w.heap.size ≤ w8.heap.size; omega)))
      clear hb9
      have y_w9 : w.heap.size + 1 < w9.heap.size := by omega
      have q_X8 := row_cell (unhide X8)
      go_wp2_with fail
      clear q_X8
      refine (markDisk_any l0 _ _ 1 w9 hs0 (by omega) (by omega) (unhide O8)).mono ?_
      rintro e w10 ⟨rfl, own10, hg10⟩
      clear own10
      replace E0 := hide (row_aside (unhide E0) (unhide O8) (by decide) hg10)
      replace E1 := hide (row_aside (unhide E1) (unhide O8) (by decide) hg10)
      replace X6 := hide (row_aside (unhide X6) (unhide O8) (by decide) hg10)
      replace X8 := hide (row_aside (unhide X8) (unhide O8) (by decide) hg10)
      replace X9 := hide (row_aside (unhide X9) (unhide O8) (by decide) hg10)
      replace O6 := hide (own_aside (unhide O6) hg10 (unhide RO6) (unhide RO8) (by omega))
      replace O9 := hide (own_aside (unhide O9) hg10 (unhide RO9) (unhide RO8) (by omega))
      have z_w10 : w9.heap.size ≤ w10.heap.size := hg10.size
      replace BB := hide (below_aside (unhide BB) hg10 (unhide RO8) (by omega) (by omega))
      clear hg10
      have y_w10 : w.heap.size + 1 < w10.heap.size := by omega
      clear X8
      obtain ⟨K, hK⟩ : ∃ K, K = 1 + l0.length * 3 := ⟨_, rfl⟩
      rw [← hK]
      clear hK
      have q_X9 := row_cell (unhide X9)
      have q_X6 := row_cell (unhide X6)
      go_wp2_with fail
      clear q_X9 q_X6
      refine (eqDisk_same ans _ _ _ _ w10 hal (unhide O9) (unhide O6)).mono ?_
      rintro e w11 ⟨rfl, hb11⟩
      replace E0 := hide (row_up (w := w10) (unhide E0) hb11)
      replace E1 := hide (row_up (w := w10) (unhide E1) hb11)
      replace X6 := hide (row_up (w := w10) (unhide X6) hb11)
      replace X9 := hide (row_up (w := w10) (unhide X9) hb11)
      replace O6 := hide (own_stays (w := w10) (unhide O6) hb11)
      replace O9 := hide (own_stays (w := w10) (unhide O9) hb11)
      have z_w11 : w10.heap.size ≤ w11.heap.size := hb11.size
      replace BB := hide ((unhide BB).trans (hb11.mono (by show w.heap.size ≤ w10.heap.size; omega)))
      clear hb11
      have y_w11 : w.heap.size + 1 < w11.heap.size := by omega
      have q_X9 := row_cell (unhide X9)
      go_wp2_with fail
      clear q_X9
      refine (markDisk_any ans _ _ 1 w11 hal (by omega) (by omega) (unhide O9)).mono ?_
      rintro e w12 ⟨rfl, own12, hg12⟩
      replace E0 := hide (row_aside (unhide E0) (unhide O9) (by decide) hg12)
      replace E1 := hide (row_aside (unhide E1) (unhide O9) (by decide) hg12)
      replace X6 := hide (row_aside (unhide X6) (unhide O9) (by decide) hg12)
      replace X9 := hide (row_aside (unhide X9) (unhide O9) (by decide) hg12)
      replace O6 := hide (own_aside (unhide O6) hg12 (unhide RO6) (unhide RO9) (by omega))
      have z_w12 : w11.heap.size ≤ w12.heap.size := hg12.size
      replace BB := hide (below_aside (unhide BB) hg12 (unhide RO9) (by omega) (by omega))
      clear hg12
      have y_w12 : w.heap.size + 1 < w12.heap.size := by omega
      have O19 := hide own12
      clear own12
      have CH := hide (fun v B wx h => heldDisk_any ans.length v B 1 wx hal (by omega) (by omega) h)
      obtain ⟨K3, hK3⟩ : ∃ K, K = 1 + ans.length * 3 := ⟨_, rfl⟩
      rw [← hK3] at CH ⊢
      clear hK3
      have q_X9 := row_cell (unhide X9)
      go_wp2_with fail
      clear q_X9
      refine (unhide CH _ _ w12 (unhide O19)).mono ?_
      rintro e w13 ⟨rfl, hb13⟩
      replace E0 := hide (row_up (w := w12) (unhide E0) hb13)
      replace E1 := hide (row_up (w := w12) (unhide E1) hb13)
      replace X6 := hide (row_up (w := w12) (unhide X6) hb13)
      replace X9 := hide (row_up (w := w12) (unhide X9) hb13)
      replace O6 := hide (own_stays (w := w12) (unhide O6) hb13)
      replace O19 := hide (own_stays (w := w12) (unhide O19) hb13)
      have z_w13 : w12.heap.size ≤ w13.heap.size := hb13.size
      replace BB := hide ((unhide BB).trans (hb13.mono (by show w.heap.size ≤ w12.heap.size; omega)))
      clear hb13
      have y_w13 : w.heap.size + 1 < w13.heap.size := by omega
      go_wp2
      go_cut [14, 15] from 16 (fun s14 s15 wc => ∃ (bx : Nat) (vx : Value), s14 = .pointer (some ⟨bx, 0, none⟩) ∧ s15 = .bool d ∧ wc.heap[bx]? = some (.cells #[vx] 26 (0, 0)) ∧ w13.heap.size ≤ bx ∧ OwnF w13.heap.size wc vx ans ∧ Below w13.heap.size w13 wc)
      case first =>
        refine wp_region_held_drew (S := fun w' => w'.cell? ⟨w.heap.size, 0, none⟩ = some (.slice a0 l0.length cap0) ∧ w'.cell? ⟨w.heap.size + 1, 0, none⟩ = some (.int .i64 x1.kind) ∧ w'.cell? ⟨w.heap.size + 1, 1, none⟩ = some (.string x1.name) ∧ w'.cell? ⟨w.heap.size + 1, 2, none⟩ = some (.string x1.text) ∧ w'.cell? ⟨w.heap.size + 1, 3, none⟩ = some (.string x1.to)) (by kernel_rfl) (⟨row_cell (w := w13.drew) (unhide E0), (row_cell4 (w := w13.drew) (unhide E1)).1, (row_cell4 (w := w13.drew) (unhide E1)).2.1, (row_cell4 (w := w13.drew) (unhide E1)).2.2.1, (row_cell4 (w := w13.drew) (unhide E1)).2.2.2⟩) (fun hHeld => ?_)
        refine takeVal 0 (some 85) ?_ rfl (by kernel_rfl) (by kernel_rfl) (by kernel_rfl) rfl (fun _ _ _ h => h) (by rfl) (by assumption) ?_ ?_
        rotate_left
        · (intro w hSw; (try dsimp only at hSw); go_simp <;> with_reducible rfl)
        simp only [Act.put, List.setIfInBounds_toArray, List.set_cons_zero, List.set_cons_succ]
        refine takeVal 2 (some 87) ?_ rfl (by kernel_rfl) (by kernel_rfl) (by kernel_rfl) rfl (fun _ _ _ h => h) (by rfl) (by assumption) ?_ ?_
        rotate_left
        · (intro w hSw; (try dsimp only at hSw); go_simp <;> with_reducible rfl)
        simp only [Act.put, List.setIfInBounds_toArray, List.set_cons_zero, List.set_cons_succ]
        have hB0 : Below w13.heap.size w13 w13.drew := (Below.refl _ _).drew
        refine wpAnyH_ready (rs := [1, 8]) (by kernel_rfl) (by simp) ?_
        refine (AllReadyH.cons rfl (fun K hK => ?_) (AllReadyH.cons rfl (fun K hK => ?_) AllReadyH.nil))
        · skip
          go_simp
          refine (toDisk_any a0 cap0 l0 (w13.drew) hs0 ((unhide HA).up ((unhide BB).trans ((hB0).mono (by omega))))).mono ?_
          rintro e v1w ⟨vv1, rfl, hod1, hbk1⟩
          go_wp2_with fail
          refine hK.out _ _ (⟨(cell_on (w := w13.drew) hbk1 hHeld.1), (cell_on (w := w13.drew) hbk1 hHeld.2.1), (cell_on (w := w13.drew) hbk1 hHeld.2.2.1), (cell_on (w := w13.drew) hbk1 hHeld.2.2.2.1), (cell_on (w := w13.drew) hbk1 hHeld.2.2.2.2)⟩) (fun hHeld2 => ?_)
          clear hK K hHeld
          have hHeld := hHeld2; clear hHeld2
          try simp only [Act.put, List.setIfInBounds_toArray, List.set_cons_zero, List.set_cons_succ]
          have hB1 : Below w13.heap.size w13 v1w := (hB0).trans (hbk1.mono (by have := (hB0).size; first | exact this | omega))
          have hz1 : w13.heap.size ≤ v1w.heap.size := (hB1).size
          refine wpAnyH_ready (rs := [3, 8]) (by kernel_rfl) (by simp) ?_
          refine (AllReadyH.cons rfl (fun K hK => ?_) (AllReadyH.cons rfl (fun K hK => ?_) AllReadyH.nil))
          · skip
            go_simp
            refine (toAct_any x1 (v1w)).mono ?_
            rintro e v2w ⟨rfl, hbk2⟩
            go_wp2_with fail
            refine hK.out _ _ (⟨(cell_on (w := v1w) hbk2 hHeld.1), (cell_on (w := v1w) hbk2 hHeld.2.1), (cell_on (w := v1w) hbk2 hHeld.2.2.1), (cell_on (w := v1w) hbk2 hHeld.2.2.2.1), (cell_on (w := v1w) hbk2 hHeld.2.2.2.2)⟩) (fun hHeld2 => ?_)
            clear hK K hHeld
            have hHeld := hHeld2; clear hHeld2
            try simp only [Act.put, List.setIfInBounds_toArray, List.set_cons_zero, List.set_cons_succ]
            have hB2 : Below w13.heap.size w13 v2w := (hB1).trans (hbk2.mono (by have := (hB1).size; first | exact this | omega))
            have hz2 : w13.heap.size ≤ v2w.heap.size := (hB2).size
            have hod1_2 := own_stays (w := v1w) hod1 hbk2
            refine wpAnyH_ready (rs := [4, 8]) (by kernel_rfl) (by simp) ?_
            refine (AllReadyH.cons rfl (fun K hK => ?_) (AllReadyH.cons rfl (fun K hK => ?_) AllReadyH.nil))
            · skip
              go_simp
              refine (unhide CI _ _ (v2w) hod1_2).mono ?_
              rintro e v3w ⟨vv3, rfl, hans3, hbk3⟩
              go_wp2_with fail
              refine hK.out _ _ (⟨(cell_on (w := v2w) hbk3 hHeld.1), (cell_on (w := v2w) hbk3 hHeld.2.1), (cell_on (w := v2w) hbk3 hHeld.2.2.1), (cell_on (w := v2w) hbk3 hHeld.2.2.2.1), (cell_on (w := v2w) hbk3 hHeld.2.2.2.2)⟩) (fun hHeld2 => ?_)
              clear hK K hHeld
              have hHeld := hHeld2; clear hHeld2
              try simp only [Act.put, List.setIfInBounds_toArray, List.set_cons_zero, List.set_cons_succ]
              have hB3 : Below w13.heap.size w13 v3w := (hB2).trans (hbk3.mono (by have := (hB2).size; first | exact this | omega))
              have hz3 : w13.heap.size ≤ v3w.heap.size := (hB3).size
              have hod1_3 := own_stays (w := v2w) hod1_2 hbk3
              refine takeVal 5 (some 84) ?_ rfl (by kernel_rfl) (by kernel_rfl) (by kernel_rfl) rfl (fun _ _ _ h => h) (by rfl) (by assumption) ?_ ?_
              rotate_left
              · (intro w hSw; (try dsimp only at hSw); go_simp <;> with_reducible rfl)
              simp only [Act.put, List.setIfInBounds_toArray, List.set_cons_zero, List.set_cons_succ]
              refine takeVal 6 (some 90) ?_ rfl (by kernel_rfl) (by kernel_rfl) (by kernel_rfl) rfl (fun _ _ _ h => h) (by rfl) (by assumption) ?_ ?_
              rotate_left
              · (intro w hSw; (try dsimp only at hSw); go_simp <;> with_reducible rfl)
              simp only [Act.put, List.setIfInBounds_toArray, List.set_cons_zero, List.set_cons_succ]
              refine takeVal 7 (some 91) ?_ rfl (by kernel_rfl) (by kernel_rfl) (by kernel_rfl) rfl (fun _ _ _ h => h) (by rfl) (by assumption) ?_ ?_
              rotate_left
              · (intro w hSw; (try dsimp only at hSw); go_simp <;> with_reducible rfl)
              simp only [Act.put, List.setIfInBounds_toArray, List.set_cons_zero, List.set_cons_succ]
              refine wpAnyH_ready (rs := [8]) (by kernel_rfl) (by simp) ?_
              refine (AllReadyH.cons rfl (fun K hK => ?_) AllReadyH.nil)
              go_simp
              refine hK.out _ _ (⟨(cell_on ((Below.refl _ _).alloc (Nat.le_refl _) _) hHeld.1), (cell_on ((Below.refl _ _).alloc (Nat.le_refl _) _) hHeld.2.1), (cell_on ((Below.refl _ _).alloc (Nat.le_refl _) _) hHeld.2.2.1), (cell_on ((Below.refl _ _).alloc (Nat.le_refl _) _) hHeld.2.2.2.1), (cell_on ((Below.refl _ _).alloc (Nat.le_refl _) _) hHeld.2.2.2.2)⟩) (fun hHeld2 => ?_)
              clear hK K hHeld
              have hHeld := hHeld2; clear hHeld2
              try simp only [Act.put, List.setIfInBounds_toArray, List.set_cons_zero, List.set_cons_succ]
              have hrw4 : (v3w.alloc (.cells #[.slice none 0 0] 26)).heap[v3w.heap.size]? = some (.cells #[.slice none 0 0] 26 (0, 0)) := heap_alloc_new v3w _
              have hbk4 : Below v3w.heap.size v3w (v3w.alloc (.cells #[.slice none 0 0] 26)) := ((Below.refl v3w.heap.size v3w).alloc (Nat.le_refl _) (.cells #[.slice none 0 0] 26))
              have hbs4 : w13.heap.size ≤ v3w.heap.size := (hB3).size
              obtain ⟨v4w, hwa4⟩ : ∃ W, W = (v3w.alloc (.cells #[.slice none 0 0] 26)) := ⟨_, rfl⟩
              rw [← hwa4] at hrw4 hbk4 hHeld ⊢
              clear hwa4
              have hB4 : Below w13.heap.size w13 v4w := (hB3).trans (hbk4.mono (by have := (hB3).size; first | exact this | omega))
              have hz4 : w13.heap.size ≤ v4w.heap.size := (hB4).size
              have hlt4 : v3w.heap.size < v4w.heap.size := row_lt hrw4
              have hod1_4 := own_stays (w := v3w) hod1_3 hbk4
              have hans3_4 := own_stays (w := v3w) hans3 hbk4
              obtain ⟨xa, xn, xc, hvx⟩ := own_shape hans3_4
              subst hvx
              have r0 := row_cell hrw4
              have z0 := row_frozen hrw4
              have RW := hide (set1 (.slice xa xn xc) hrw4)
              have OW := hide (own_set (u := .slice xa xn xc) hans3_4 hrw4 (by decide))
              have BW := hide ((hB4).setCell (p := ⟨v3w.heap.size, 0, none⟩) (by show w13.heap.size ≤ v3w.heap.size; omega) (.slice xa xn xc))
              refine wpAnyH_ready (rs := [9]) (by kernel_rfl) (by simp) ?_
              refine AllReadyH.cons rfl (fun K hK => ?_) AllReadyH.nil
              go_simp
              refine hK.out _ _ (⟨((World.cell?_setCell_other _ _ _ _ (by simp <;> omega)).trans hHeld.1), ((World.cell?_setCell_other _ _ _ _ (by simp <;> omega)).trans hHeld.2.1), ((World.cell?_setCell_other _ _ _ _ (by simp <;> omega)).trans hHeld.2.2.1), ((World.cell?_setCell_other _ _ _ _ (by simp <;> omega)).trans hHeld.2.2.2.1), ((World.cell?_setCell_other _ _ _ _ (by simp <;> omega)).trans hHeld.2.2.2.2)⟩) (fun hHeld2 => ?_)
              clear hK K hHeld
              have hHeld := hHeld2; clear hHeld2
              try simp only [Act.put, List.setIfInBounds_toArray, List.set_cons_zero, List.set_cons_succ]
              refine takeVal 10 (some 15) ?_ rfl (by kernel_rfl) (by kernel_rfl) (by kernel_rfl) rfl (fun _ _ _ h => h) (by rfl) (by assumption) ?_ ?_
              rotate_left
              · (intro w hSw; (try dsimp only at hSw); go_simp <;> with_reducible rfl)
              simp only [Act.put, List.setIfInBounds_toArray, List.set_cons_zero, List.set_cons_succ]
              refine wpAnyH_done (by kernel_rfl) ?_ _
              go_wp2
              go_meet
              case rel => exact ⟨v3w.heap.size, .slice xa xn xc, rfl, rfl, unhide RW, by omega, own_based (unhide OW) (by omega), unhide BW⟩
            · skip
              go_simp
              refine hK.out _ _ (⟨(cell_on ((Below.refl _ _).alloc (Nat.le_refl _) _) hHeld.1), (cell_on ((Below.refl _ _).alloc (Nat.le_refl _) _) hHeld.2.1), (cell_on ((Below.refl _ _).alloc (Nat.le_refl _) _) hHeld.2.2.1), (cell_on ((Below.refl _ _).alloc (Nat.le_refl _) _) hHeld.2.2.2.1), (cell_on ((Below.refl _ _).alloc (Nat.le_refl _) _) hHeld.2.2.2.2)⟩) (fun hHeld2 => ?_)
              clear hK K hHeld
              have hHeld := hHeld2; clear hHeld2
              try simp only [Act.put, List.setIfInBounds_toArray, List.set_cons_zero, List.set_cons_succ]
              have hrw5 : (v2w.alloc (.cells #[.slice none 0 0] 26)).heap[v2w.heap.size]? = some (.cells #[.slice none 0 0] 26 (0, 0)) := heap_alloc_new v2w _
              have hbk5 : Below v2w.heap.size v2w (v2w.alloc (.cells #[.slice none 0 0] 26)) := ((Below.refl v2w.heap.size v2w).alloc (Nat.le_refl _) (.cells #[.slice none 0 0] 26))
              have hbs5 : w13.heap.size ≤ v2w.heap.size := (hB2).size
              obtain ⟨v5w, hwa5⟩ : ∃ W, W = (v2w.alloc (.cells #[.slice none 0 0] 26)) := ⟨_, rfl⟩
              rw [← hwa5] at hrw5 hbk5 hHeld ⊢
              clear hwa5
              have hB5 : Below w13.heap.size w13 v5w := (hB2).trans (hbk5.mono (by have := (hB2).size; first | exact this | omega))
              have hz5 : w13.heap.size ≤ v5w.heap.size := (hB5).size
              have hlt5 : v2w.heap.size < v5w.heap.size := row_lt hrw5
              have hod1_5 := own_stays (w := v2w) hod1_2 hbk5
              refine wpAnyH_ready (rs := [4]) (by kernel_rfl) (by simp) ?_
              refine (AllReadyH.cons rfl (fun K hK => ?_) AllReadyH.nil)
              go_simp
              refine (unhide CI _ _ (v5w) hod1_5).mono ?_
              rintro e v6w ⟨vv6, rfl, hans6, hbk6⟩
              go_wp2_with fail
              refine hK.out _ _ (⟨(cell_on (w := v5w) hbk6 hHeld.1), (cell_on (w := v5w) hbk6 hHeld.2.1), (cell_on (w := v5w) hbk6 hHeld.2.2.1), (cell_on (w := v5w) hbk6 hHeld.2.2.2.1), (cell_on (w := v5w) hbk6 hHeld.2.2.2.2)⟩) (fun hHeld2 => ?_)
              clear hK K hHeld
              have hHeld := hHeld2; clear hHeld2
              try simp only [Act.put, List.setIfInBounds_toArray, List.set_cons_zero, List.set_cons_succ]
              have hB6 : Below w13.heap.size w13 v6w := (hB5).trans (hbk6.mono (by have := (hB5).size; first | exact this | omega))
              have hz6 : w13.heap.size ≤ v6w.heap.size := (hB6).size
              have hod1_6 := own_stays (w := v5w) hod1_5 hbk6
              have hrw6 := row_up (w := v5w) hrw5 hbk6
              refine takeVal 5 (some 84) ?_ rfl (by kernel_rfl) (by kernel_rfl) (by kernel_rfl) rfl (fun _ _ _ h => h) (by rfl) (by assumption) ?_ ?_
              rotate_left
              · (intro w hSw; (try dsimp only at hSw); go_simp <;> with_reducible rfl)
              simp only [Act.put, List.setIfInBounds_toArray, List.set_cons_zero, List.set_cons_succ]
              refine takeVal 6 (some 90) ?_ rfl (by kernel_rfl) (by kernel_rfl) (by kernel_rfl) rfl (fun _ _ _ h => h) (by rfl) (by assumption) ?_ ?_
              rotate_left
              · (intro w hSw; (try dsimp only at hSw); go_simp <;> with_reducible rfl)
              simp only [Act.put, List.setIfInBounds_toArray, List.set_cons_zero, List.set_cons_succ]
              refine takeVal 7 (some 91) ?_ rfl (by kernel_rfl) (by kernel_rfl) (by kernel_rfl) rfl (fun _ _ _ h => h) (by rfl) (by assumption) ?_ ?_
              rotate_left
              · (intro w hSw; (try dsimp only at hSw); go_simp <;> with_reducible rfl)
              simp only [Act.put, List.setIfInBounds_toArray, List.set_cons_zero, List.set_cons_succ]
              obtain ⟨xa, xn, xc, hvx⟩ := own_shape hans6
              subst hvx
              have r0 := row_cell hrw6
              have z0 := row_frozen hrw6
              have RW := hide (set1 (.slice xa xn xc) hrw6)
              have OW := hide (own_set (u := .slice xa xn xc) hans6 hrw6 (by decide))
              have BW := hide ((hB6).setCell (p := ⟨v2w.heap.size, 0, none⟩) (by show w13.heap.size ≤ v2w.heap.size; omega) (.slice xa xn xc))
              refine wpAnyH_ready (rs := [9]) (by kernel_rfl) (by simp) ?_
              refine AllReadyH.cons rfl (fun K hK => ?_) AllReadyH.nil
              go_simp
              refine hK.out _ _ (⟨((World.cell?_setCell_other _ _ _ _ (by simp <;> omega)).trans hHeld.1), ((World.cell?_setCell_other _ _ _ _ (by simp <;> omega)).trans hHeld.2.1), ((World.cell?_setCell_other _ _ _ _ (by simp <;> omega)).trans hHeld.2.2.1), ((World.cell?_setCell_other _ _ _ _ (by simp <;> omega)).trans hHeld.2.2.2.1), ((World.cell?_setCell_other _ _ _ _ (by simp <;> omega)).trans hHeld.2.2.2.2)⟩) (fun hHeld2 => ?_)
              clear hK K hHeld
              have hHeld := hHeld2; clear hHeld2
              try simp only [Act.put, List.setIfInBounds_toArray, List.set_cons_zero, List.set_cons_succ]
              refine takeVal 10 (some 15) ?_ rfl (by kernel_rfl) (by kernel_rfl) (by kernel_rfl) rfl (fun _ _ _ h => h) (by rfl) (by assumption) ?_ ?_
              rotate_left
              · (intro w hSw; (try dsimp only at hSw); go_simp <;> with_reducible rfl)
              simp only [Act.put, List.setIfInBounds_toArray, List.set_cons_zero, List.set_cons_succ]
              refine wpAnyH_done (by kernel_rfl) ?_ _
              go_wp2
              go_meet
              case rel => exact ⟨v2w.heap.size, .slice xa xn xc, rfl, rfl, unhide RW, by omega, own_based (unhide OW) (by omega), unhide BW⟩
          · skip
            go_simp
            refine hK.out _ _ (⟨(cell_on ((Below.refl _ _).alloc (Nat.le_refl _) _) hHeld.1), (cell_on ((Below.refl _ _).alloc (Nat.le_refl _) _) hHeld.2.1), (cell_on ((Below.refl _ _).alloc (Nat.le_refl _) _) hHeld.2.2.1), (cell_on ((Below.refl _ _).alloc (Nat.le_refl _) _) hHeld.2.2.2.1), (cell_on ((Below.refl _ _).alloc (Nat.le_refl _) _) hHeld.2.2.2.2)⟩) (fun hHeld2 => ?_)
            clear hK K hHeld
            have hHeld := hHeld2; clear hHeld2
            try simp only [Act.put, List.setIfInBounds_toArray, List.set_cons_zero, List.set_cons_succ]
            have hrw7 : (v1w.alloc (.cells #[.slice none 0 0] 26)).heap[v1w.heap.size]? = some (.cells #[.slice none 0 0] 26 (0, 0)) := heap_alloc_new v1w _
            have hbk7 : Below v1w.heap.size v1w (v1w.alloc (.cells #[.slice none 0 0] 26)) := ((Below.refl v1w.heap.size v1w).alloc (Nat.le_refl _) (.cells #[.slice none 0 0] 26))
            have hbs7 : w13.heap.size ≤ v1w.heap.size := (hB1).size
            obtain ⟨v7w, hwa7⟩ : ∃ W, W = (v1w.alloc (.cells #[.slice none 0 0] 26)) := ⟨_, rfl⟩
            rw [← hwa7] at hrw7 hbk7 hHeld ⊢
            clear hwa7
            have hB7 : Below w13.heap.size w13 v7w := (hB1).trans (hbk7.mono (by have := (hB1).size; first | exact this | omega))
            have hz7 : w13.heap.size ≤ v7w.heap.size := (hB7).size
            have hlt7 : v1w.heap.size < v7w.heap.size := row_lt hrw7
            have hod1_7 := own_stays (w := v1w) hod1 hbk7
            refine wpAnyH_ready (rs := [3]) (by kernel_rfl) (by simp) ?_
            refine (AllReadyH.cons rfl (fun K hK => ?_) AllReadyH.nil)
            go_simp
            refine (toAct_any x1 (v7w)).mono ?_
            rintro e v8w ⟨rfl, hbk8⟩
            go_wp2_with fail
            refine hK.out _ _ (⟨(cell_on (w := v7w) hbk8 hHeld.1), (cell_on (w := v7w) hbk8 hHeld.2.1), (cell_on (w := v7w) hbk8 hHeld.2.2.1), (cell_on (w := v7w) hbk8 hHeld.2.2.2.1), (cell_on (w := v7w) hbk8 hHeld.2.2.2.2)⟩) (fun hHeld2 => ?_)
            clear hK K hHeld
            have hHeld := hHeld2; clear hHeld2
            try simp only [Act.put, List.setIfInBounds_toArray, List.set_cons_zero, List.set_cons_succ]
            have hB8 : Below w13.heap.size w13 v8w := (hB7).trans (hbk8.mono (by have := (hB7).size; first | exact this | omega))
            have hz8 : w13.heap.size ≤ v8w.heap.size := (hB8).size
            have hod1_8 := own_stays (w := v7w) hod1_7 hbk8
            have hrw8 := row_up (w := v7w) hrw7 hbk8
            refine wpAnyH_ready (rs := [4]) (by kernel_rfl) (by simp) ?_
            refine (AllReadyH.cons rfl (fun K hK => ?_) AllReadyH.nil)
            go_simp
            refine (unhide CI _ _ (v8w) hod1_8).mono ?_
            rintro e v9w ⟨vv9, rfl, hans9, hbk9⟩
            go_wp2_with fail
            refine hK.out _ _ (⟨(cell_on (w := v8w) hbk9 hHeld.1), (cell_on (w := v8w) hbk9 hHeld.2.1), (cell_on (w := v8w) hbk9 hHeld.2.2.1), (cell_on (w := v8w) hbk9 hHeld.2.2.2.1), (cell_on (w := v8w) hbk9 hHeld.2.2.2.2)⟩) (fun hHeld2 => ?_)
            clear hK K hHeld
            have hHeld := hHeld2; clear hHeld2
            try simp only [Act.put, List.setIfInBounds_toArray, List.set_cons_zero, List.set_cons_succ]
            have hB9 : Below w13.heap.size w13 v9w := (hB8).trans (hbk9.mono (by have := (hB8).size; first | exact this | omega))
            have hz9 : w13.heap.size ≤ v9w.heap.size := (hB9).size
            have hod1_9 := own_stays (w := v8w) hod1_8 hbk9
            have hrw9 := row_up (w := v8w) hrw8 hbk9
            refine takeVal 5 (some 84) ?_ rfl (by kernel_rfl) (by kernel_rfl) (by kernel_rfl) rfl (fun _ _ _ h => h) (by rfl) (by assumption) ?_ ?_
            rotate_left
            · (intro w hSw; (try dsimp only at hSw); go_simp <;> with_reducible rfl)
            simp only [Act.put, List.setIfInBounds_toArray, List.set_cons_zero, List.set_cons_succ]
            refine takeVal 6 (some 90) ?_ rfl (by kernel_rfl) (by kernel_rfl) (by kernel_rfl) rfl (fun _ _ _ h => h) (by rfl) (by assumption) ?_ ?_
            rotate_left
            · (intro w hSw; (try dsimp only at hSw); go_simp <;> with_reducible rfl)
            simp only [Act.put, List.setIfInBounds_toArray, List.set_cons_zero, List.set_cons_succ]
            refine takeVal 7 (some 91) ?_ rfl (by kernel_rfl) (by kernel_rfl) (by kernel_rfl) rfl (fun _ _ _ h => h) (by rfl) (by assumption) ?_ ?_
            rotate_left
            · (intro w hSw; (try dsimp only at hSw); go_simp <;> with_reducible rfl)
            simp only [Act.put, List.setIfInBounds_toArray, List.set_cons_zero, List.set_cons_succ]
            obtain ⟨xa, xn, xc, hvx⟩ := own_shape hans9
            subst hvx
            have r0 := row_cell hrw9
            have z0 := row_frozen hrw9
            have RW := hide (set1 (.slice xa xn xc) hrw9)
            have OW := hide (own_set (u := .slice xa xn xc) hans9 hrw9 (by decide))
            have BW := hide ((hB9).setCell (p := ⟨v1w.heap.size, 0, none⟩) (by show w13.heap.size ≤ v1w.heap.size; omega) (.slice xa xn xc))
            refine wpAnyH_ready (rs := [9]) (by kernel_rfl) (by simp) ?_
            refine AllReadyH.cons rfl (fun K hK => ?_) AllReadyH.nil
            go_simp
            refine hK.out _ _ (⟨((World.cell?_setCell_other _ _ _ _ (by simp <;> omega)).trans hHeld.1), ((World.cell?_setCell_other _ _ _ _ (by simp <;> omega)).trans hHeld.2.1), ((World.cell?_setCell_other _ _ _ _ (by simp <;> omega)).trans hHeld.2.2.1), ((World.cell?_setCell_other _ _ _ _ (by simp <;> omega)).trans hHeld.2.2.2.1), ((World.cell?_setCell_other _ _ _ _ (by simp <;> omega)).trans hHeld.2.2.2.2)⟩) (fun hHeld2 => ?_)
            clear hK K hHeld
            have hHeld := hHeld2; clear hHeld2
            try simp only [Act.put, List.setIfInBounds_toArray, List.set_cons_zero, List.set_cons_succ]
            refine takeVal 10 (some 15) ?_ rfl (by kernel_rfl) (by kernel_rfl) (by kernel_rfl) rfl (fun _ _ _ h => h) (by rfl) (by assumption) ?_ ?_
            rotate_left
            · (intro w hSw; (try dsimp only at hSw); go_simp <;> with_reducible rfl)
            simp only [Act.put, List.setIfInBounds_toArray, List.set_cons_zero, List.set_cons_succ]
            refine wpAnyH_done (by kernel_rfl) ?_ _
            go_wp2
            go_meet
            case rel => exact ⟨v1w.heap.size, .slice xa xn xc, rfl, rfl, unhide RW, by omega, own_based (unhide OW) (by omega), unhide BW⟩
        · skip
          go_simp
          refine hK.out _ _ (⟨(cell_on ((Below.refl _ _).alloc (Nat.le_refl _) _) hHeld.1), (cell_on ((Below.refl _ _).alloc (Nat.le_refl _) _) hHeld.2.1), (cell_on ((Below.refl _ _).alloc (Nat.le_refl _) _) hHeld.2.2.1), (cell_on ((Below.refl _ _).alloc (Nat.le_refl _) _) hHeld.2.2.2.1), (cell_on ((Below.refl _ _).alloc (Nat.le_refl _) _) hHeld.2.2.2.2)⟩) (fun hHeld2 => ?_)
          clear hK K hHeld
          have hHeld := hHeld2; clear hHeld2
          try simp only [Act.put, List.setIfInBounds_toArray, List.set_cons_zero, List.set_cons_succ]
          have hrw10 : (w13.alloc (.cells #[.slice none 0 0] 26)).drew.heap[w13.heap.size]? = some (.cells #[.slice none 0 0] 26 (0, 0)) := heap_alloc_new w13 _
          have hbk10 : Below w13.heap.size w13 (w13.alloc (.cells #[.slice none 0 0] 26)).drew := ((Below.refl w13.heap.size w13).alloc (Nat.le_refl _) (.cells #[.slice none 0 0] 26)).drew
          have hbs10 : w13.heap.size ≤ w13.heap.size := Nat.le_refl _
          obtain ⟨v10w, hwa10⟩ : ∃ W, W = (w13.alloc (.cells #[.slice none 0 0] 26)).drew := ⟨_, rfl⟩
          rw [← hwa10] at hrw10 hbk10 hHeld ⊢
          clear hwa10
          have hB10 : Below w13.heap.size w13 v10w := hbk10
          have hz10 : w13.heap.size ≤ v10w.heap.size := (hB10).size
          have hlt10 : w13.heap.size < v10w.heap.size := row_lt hrw10
          refine wpAnyH_ready (rs := [1]) (by kernel_rfl) (by simp) ?_
          refine (AllReadyH.cons rfl (fun K hK => ?_) AllReadyH.nil)
          go_simp
          refine (toDisk_any a0 cap0 l0 (v10w) hs0 ((unhide HA).up ((unhide BB).trans ((hB10).mono (by omega))))).mono ?_
          rintro e v11w ⟨vv11, rfl, hod11, hbk11⟩
          go_wp2_with fail
          refine hK.out _ _ (⟨(cell_on (w := v10w) hbk11 hHeld.1), (cell_on (w := v10w) hbk11 hHeld.2.1), (cell_on (w := v10w) hbk11 hHeld.2.2.1), (cell_on (w := v10w) hbk11 hHeld.2.2.2.1), (cell_on (w := v10w) hbk11 hHeld.2.2.2.2)⟩) (fun hHeld2 => ?_)
          clear hK K hHeld
          have hHeld := hHeld2; clear hHeld2
          try simp only [Act.put, List.setIfInBounds_toArray, List.set_cons_zero, List.set_cons_succ]
          have hB11 : Below w13.heap.size w13 v11w := (hB10).trans (hbk11.mono (by have := (hB10).size; first | exact this | omega))
          have hz11 : w13.heap.size ≤ v11w.heap.size := (hB11).size
          have hrw11 := row_up (w := v10w) hrw10 hbk11
          refine wpAnyH_ready (rs := [3]) (by kernel_rfl) (by simp) ?_
          refine (AllReadyH.cons rfl (fun K hK => ?_) AllReadyH.nil)
          go_simp
          refine (toAct_any x1 (v11w)).mono ?_
          rintro e v12w ⟨rfl, hbk12⟩
          go_wp2_with fail
          refine hK.out _ _ (⟨(cell_on (w := v11w) hbk12 hHeld.1), (cell_on (w := v11w) hbk12 hHeld.2.1), (cell_on (w := v11w) hbk12 hHeld.2.2.1), (cell_on (w := v11w) hbk12 hHeld.2.2.2.1), (cell_on (w := v11w) hbk12 hHeld.2.2.2.2)⟩) (fun hHeld2 => ?_)
          clear hK K hHeld
          have hHeld := hHeld2; clear hHeld2
          try simp only [Act.put, List.setIfInBounds_toArray, List.set_cons_zero, List.set_cons_succ]
          have hB12 : Below w13.heap.size w13 v12w := (hB11).trans (hbk12.mono (by have := (hB11).size; first | exact this | omega))
          have hz12 : w13.heap.size ≤ v12w.heap.size := (hB12).size
          have hod11_12 := own_stays (w := v11w) hod11 hbk12
          have hrw12 := row_up (w := v11w) hrw11 hbk12
          refine wpAnyH_ready (rs := [4]) (by kernel_rfl) (by simp) ?_
          refine (AllReadyH.cons rfl (fun K hK => ?_) AllReadyH.nil)
          go_simp
          refine (unhide CI _ _ (v12w) hod11_12).mono ?_
          rintro e v13w ⟨vv13, rfl, hans13, hbk13⟩
          go_wp2_with fail
          refine hK.out _ _ (⟨(cell_on (w := v12w) hbk13 hHeld.1), (cell_on (w := v12w) hbk13 hHeld.2.1), (cell_on (w := v12w) hbk13 hHeld.2.2.1), (cell_on (w := v12w) hbk13 hHeld.2.2.2.1), (cell_on (w := v12w) hbk13 hHeld.2.2.2.2)⟩) (fun hHeld2 => ?_)
          clear hK K hHeld
          have hHeld := hHeld2; clear hHeld2
          try simp only [Act.put, List.setIfInBounds_toArray, List.set_cons_zero, List.set_cons_succ]
          have hB13 : Below w13.heap.size w13 v13w := (hB12).trans (hbk13.mono (by have := (hB12).size; first | exact this | omega))
          have hz13 : w13.heap.size ≤ v13w.heap.size := (hB13).size
          have hod11_13 := own_stays (w := v12w) hod11_12 hbk13
          have hrw13 := row_up (w := v12w) hrw12 hbk13
          refine takeVal 5 (some 84) ?_ rfl (by kernel_rfl) (by kernel_rfl) (by kernel_rfl) rfl (fun _ _ _ h => h) (by rfl) (by assumption) ?_ ?_
          rotate_left
          · (intro w hSw; (try dsimp only at hSw); go_simp <;> with_reducible rfl)
          simp only [Act.put, List.setIfInBounds_toArray, List.set_cons_zero, List.set_cons_succ]
          refine takeVal 6 (some 90) ?_ rfl (by kernel_rfl) (by kernel_rfl) (by kernel_rfl) rfl (fun _ _ _ h => h) (by rfl) (by assumption) ?_ ?_
          rotate_left
          · (intro w hSw; (try dsimp only at hSw); go_simp <;> with_reducible rfl)
          simp only [Act.put, List.setIfInBounds_toArray, List.set_cons_zero, List.set_cons_succ]
          refine takeVal 7 (some 91) ?_ rfl (by kernel_rfl) (by kernel_rfl) (by kernel_rfl) rfl (fun _ _ _ h => h) (by rfl) (by assumption) ?_ ?_
          rotate_left
          · (intro w hSw; (try dsimp only at hSw); go_simp <;> with_reducible rfl)
          simp only [Act.put, List.setIfInBounds_toArray, List.set_cons_zero, List.set_cons_succ]
          obtain ⟨xa, xn, xc, hvx⟩ := own_shape hans13
          subst hvx
          have r0 := row_cell hrw13
          have z0 := row_frozen hrw13
          have RW := hide (set1 (.slice xa xn xc) hrw13)
          have OW := hide (own_set (u := .slice xa xn xc) hans13 hrw13 (by decide))
          have BW := hide ((hB13).setCell (p := ⟨w13.heap.size, 0, none⟩) (by show w13.heap.size ≤ w13.heap.size; omega) (.slice xa xn xc))
          refine wpAnyH_ready (rs := [9]) (by kernel_rfl) (by simp) ?_
          refine AllReadyH.cons rfl (fun K hK => ?_) AllReadyH.nil
          go_simp
          refine hK.out _ _ (⟨((World.cell?_setCell_other _ _ _ _ (by simp <;> omega)).trans hHeld.1), ((World.cell?_setCell_other _ _ _ _ (by simp <;> omega)).trans hHeld.2.1), ((World.cell?_setCell_other _ _ _ _ (by simp <;> omega)).trans hHeld.2.2.1), ((World.cell?_setCell_other _ _ _ _ (by simp <;> omega)).trans hHeld.2.2.2.1), ((World.cell?_setCell_other _ _ _ _ (by simp <;> omega)).trans hHeld.2.2.2.2)⟩) (fun hHeld2 => ?_)
          clear hK K hHeld
          have hHeld := hHeld2; clear hHeld2
          try simp only [Act.put, List.setIfInBounds_toArray, List.set_cons_zero, List.set_cons_succ]
          refine takeVal 10 (some 15) ?_ rfl (by kernel_rfl) (by kernel_rfl) (by kernel_rfl) rfl (fun _ _ _ h => h) (by rfl) (by assumption) ?_ ?_
          rotate_left
          · (intro w hSw; (try dsimp only at hSw); go_simp <;> with_reducible rfl)
          simp only [Act.put, List.setIfInBounds_toArray, List.set_cons_zero, List.set_cons_succ]
          refine wpAnyH_done (by kernel_rfl) ?_ _
          go_wp2
          go_meet
          case rel => exact ⟨w13.heap.size, .slice xa xn xc, rfl, rfl, unhide RW, by omega, own_based (unhide OW) (by omega), unhide BW⟩
      case rest =>
        obtain ⟨bx14, vx14, rfl, rfl, hx14, hlo14, hown14, hb14⟩ := hcut
        obtain ⟨w14, rfl⟩ : ∃ x, x = wc := ⟨_, rfl⟩
        replace E0 := hide (row_up (w := w13) (unhide E0) hb14)
        replace E1 := hide (row_up (w := w13) (unhide E1) hb14)
        replace X6 := hide (row_up (w := w13) (unhide X6) hb14)
        replace X9 := hide (row_up (w := w13) (unhide X9) hb14)
        replace O6 := hide (own_stays (w := w13) (unhide O6) hb14)
        replace O19 := hide (own_stays (w := w13) (unhide O19) hb14)
        have z_w14 : w13.heap.size ≤ w14.heap.size := hb14.size
        replace BB := hide ((unhide BB).trans (hb14.mono (by show w.heap.size ≤ w13.heap.size; omega)))
        clear hb14
        have y_w14 : w.heap.size + 1 < w14.heap.size := by omega
        have X14 := hide hx14
        clear hx14
        have O14 := hide hown14
        have RO14 := hide (World.ownsRow.lt (unhide O14))
        clear hown14
        obtain ⟨xa14, xn14, xc14, hv14⟩ := own_shape (unhide O14)
        subst hv14
        have q_X14 := row_cell (unhide X14)
        have q_X6 := row_cell (unhide X6)
        go_wp2_with fail
        clear q_X14 q_X6
        refine (eqDisk_same ans _ _ _ _ w14 hal (unhide O14) (unhide O6)).mono ?_
        rintro e w15 ⟨rfl, hb15⟩
        replace E0 := hide (row_up (w := w14) (unhide E0) hb15)
        replace E1 := hide (row_up (w := w14) (unhide E1) hb15)
        replace X6 := hide (row_up (w := w14) (unhide X6) hb15)
        replace X9 := hide (row_up (w := w14) (unhide X9) hb15)
        replace X14 := hide (row_up (w := w14) (unhide X14) hb15)
        replace O6 := hide (own_stays (w := w14) (unhide O6) hb15)
        replace O19 := hide (own_stays (w := w14) (unhide O19) hb15)
        replace O14 := hide (own_stays (w := w14) (unhide O14) hb15)
        have z_w15 : w14.heap.size ≤ w15.heap.size := hb15.size
        replace BB := hide ((unhide BB).trans (hb15.mono (by show w.heap.size ≤ w14.heap.size; omega)))
        clear hb15
        have y_w15 : w.heap.size + 1 < w15.heap.size := by omega
        have q_X9 := row_cell (unhide X9)
        go_wp2_with fail
        clear q_X9
        refine (unhide CH _ _ w15 (unhide O19)).mono ?_
        rintro e w16 ⟨rfl, hb16⟩
        replace E0 := hide (row_up (w := w15) (unhide E0) hb16)
        replace E1 := hide (row_up (w := w15) (unhide E1) hb16)
        replace X6 := hide (row_up (w := w15) (unhide X6) hb16)
        replace X9 := hide (row_up (w := w15) (unhide X9) hb16)
        replace X14 := hide (row_up (w := w15) (unhide X14) hb16)
        replace O6 := hide (own_stays (w := w15) (unhide O6) hb16)
        replace O19 := hide (own_stays (w := w15) (unhide O19) hb16)
        replace O14 := hide (own_stays (w := w15) (unhide O14) hb16)
        have z_w16 : w15.heap.size ≤ w16.heap.size := hb16.size
        replace BB := hide ((unhide BB).trans (hb16.mono (by show w.heap.size ≤ w15.heap.size; omega)))
        clear hb16
        have y_w16 : w.heap.size + 1 < w16.heap.size := by omega
        go_wp2
        go_ret
        exact ⟨rfl, unhide BB⟩

set_option maxRecDepth 100000 in
theorem lifted (os : Os) (started : os.Started) (H : Type) (enc : TypeId × Value → H) :
    ReturnsInHanded {} Try.checked os 7 .any (Rows.fnExactDoActSpec.pre6 enc Try.prog Try.f7 Rows.fnExactDoActRow.domain false) (Rows.fnExactDoActSpec.post enc Try.prog Try.f7 false true false false) := by
  refine returnsInHanded_of_change (C := Try.checked) own started (by kernel_rfl) Try.func7
    (ChangeSpec.witness6 (enc := enc) (C := Try.checked) false ⟨#[], #[.agg #[.slice none 0 0], .agg #[.int .i64 0, .string ByteArray.empty, .string ByteArray.empty, .string ByteArray.empty]], []⟩ 8 (by kernel_rfl) (by kernel_rfl) (by kernel_rfl) (by kernel_rfl)) ?_
  intro W base args ds gs before hval0 hW hcnd _
  have hval : ∀ (j : Nat) t v, Try.f7.params[j]? = some t → args[j]? = some v → Value.okWide Try.prog W .any base t v := hval0
  have hW' := hW
  obtain ⟨p, q, hA0, hV, rfl, hfz, hnd⟩ := hW
  have hA : DataW.TrodAll enc Try.prog W 0 (fun _ => true) true Try.f7.params.toList args.toList ds p := hA0
  rw [Try.params7] at hA hval
  obtain ⟨v0, vs0, d0, ds0, p0, q0, hargs, rfl, rfl, h0, r0⟩ := trodAll_cons hA
  obtain ⟨v1, vs1, d1, ds1, p1, q1, rfl, rfl, rfl, h1, r1⟩ := trodAll_cons r0
  obtain ⟨rfl, rfl, rfl⟩ := trodAll_nil r1
  obtain rfl : args = #[v0, v1] := by cases args; simp_all
  obtain ⟨rfl, rfl⟩ := trodVars_none hV
  have k0 := h0
  have lt0 : ∀ x ∈ p0, x.block < W.heap.size := by obtain ⟨m, hm⟩ := k0; exact DataW.trod_lt m _ _ _ hm
  have k1 := h1
  have lt1 : ∀ x ∈ p1, x.block < W.heap.size := by obtain ⟨m, hm⟩ := k1; exact DataW.trod_lt m _ _ _ hm
  obtain ⟨a0, cap0, l0, rfl, m0, g0⟩ := open_disk (hval 0 51 v0 rfl rfl) h0
  obtain ⟨x1, rfl, g1⟩ := open_act (hval 1 56 v1 rfl rfl) h1
  clear hA0 hval0
  refine (walk a0 cap0 l0 x1 W m0 g0 g1).mono fun e W' ⟨he, bel⟩ => ?_
  subst he
  exact ⟨_, rfl, _, _, _, [], _, [], hW', trodAll_mk1 (shut_bool Try.underlying4 _), (trodAll_cons_mk (Below.trod laidOut (by kernel_rfl) (of_decide_eq_true (by kernel_rfl)) k0 bel lt0) (trodAll_cons_mk (Below.trod laidOut (by kernel_rfl) (of_decide_eq_true (by kernel_rfl)) k1 bel lt1) trodAll_mk0)), rfl, bel.frame _, fun h => by cases h⟩

theorem over : Rows.fnExactDoActRow.holds Try.pinned (OpenSpec.ofChange Rows.fnExactDoActSpec) :=
  OpenClaim.holds_of_wide 7 Try.f7 rfl rfl rfl rfl rfl rfl rfl ⟨rfl, rfl, rfl, rfl, rfl⟩ rfl rfl rfl rfl rfl (by kernel_rfl) Try.func7 (by kernel_rfl)
    (of_decide_eq_true (by kernel_rfl)) (by unfold Func.isWrapper; first | (rw [if_pos (by decide +kernel)]; kernel_rfl) | (rw [if_neg (by decide +kernel)]; exact ⟨rfl, rfl⟩))
    (fun os started H enc _ => lifted os started H enc)

theorem proved : Rows.FnExactDoActSaid := over
#print axioms proved
end Go.Proofs.Ytipmbfjcgmchkaa.fnExactDoAct
