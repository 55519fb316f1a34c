/-
  FnExactCutActs: at every disk, list of acts, number and list of numbers the program's CutActs answers as the specification's, every field, writes into no argument, and its answer owns its memory: the law returns true, and the arguments read as they did; no condition (what is of over 2^20 values and bytes is passed by the law itself).
-/
import Derived.Test.YtipmbfjcgmchkabRows
import Derived.Test.YtipmbfjcgmchkabCutActs
import Derived.Test.YtipmbfjcgmchkabActMarks
import Derived.Test.YtipmbfjcgmchkabLedger2
import Derived.WalkKit
import Derived.ProofKit
import Derived.OpenShut
import Derived.ShutString
import Derived.ChangeOld
import Derived.Below
import Derived.Carry
namespace Go.Proofs.Ytipmbfjcgmchkab.fnExactCutActs
open Go.ChangeShapes Go.WideShapes Go.ChangeAt Go.RowKit
open Go.ChangeMaps (open_string shut_string)
open Plain
set_option linter.unusedVariables false

theorem own : ownKnob Try.prog.godebug = none := by kernel_rfl
theorem laidOut : laidOutB Try.prog = true := by kernel_rfl

set_option maxHeartbeats 8000000 in
set_option maxRecDepth 100000 in
theorem walk (a0 : Option Addr) (cap0 : Nat) (l0 : List Fl) (a1 : Option Addr) (cap1 : Nat) (l1 : List Ac) (n2 : Int) (a3 : Option Addr) (cap3 : Nat) (l3 : List Int) (w : World) (m0 : l0.length ≤ maxLen) (h0 : ArgF w.heap.size w a0 l0) (m1 : l1.length ≤ maxLen) (h1 : ArgA w.heap.size w a1 l1) (m3 : l3.length ≤ maxLen) (h3 : ArgI w.heap.size w a3 l3) :
    Calls Try.prog 4 #[.agg #[.slice a0 l0.length cap0], .slice a1 l1.length cap1, .int .i64 n2, .slice a3 l3.length cap3] w fun e w' => e = .returned (.bool true) ∧ Below w.heap.size w w' := by
  unfold maxLen at m3
  by_cases hnm : l3.length ≤ 1048576
  · have HA := hide h0
    have HX := hide h1
    have HI := hide h3
    clear h0 h1 h3
    go_enter Try.func4, Try.ntmps4
    go_wp2_with fail
    have hb0 := (Below.refl w.heap.size w).alloc (Nat.le_refl _) (.cells #[.slice a0 l0.length cap0] 24)
    have e0 : (w.alloc (.cells #[.slice a0 l0.length cap0] 24)).heap[w.heap.size]? = some (.cells #[.slice a0 l0.length cap0] 24 (0, 0)) := heap_alloc_new _ _
    have hsz : (w.alloc (.cells #[.slice a0 l0.length cap0] 24)).heap.size = w.heap.size + 1 := by simp
    generalize w.alloc (.cells #[.slice a0 l0.length cap0] 24) = W at *
    refine (szDisk_any a0 l0.length cap0 l0 W rfl m0 ((unhide HA).up hb0)).mono ?_
    rintro e w1 ⟨⟨m, rfl, hmm⟩, hb1⟩
    have E0 := hide (row_up e0 hb1)
    have BB := hide (hb0.trans (hb1.mono (by omega)))
    have y_w1 : w.heap.size < w1.heap.size := by have := hb1.size; omega
    clear e0 hb0 hb1
    rcases hmm with rfl | ⟨q, rfl, hq, hsm⟩
    · go_wp2
      go_ret
      exact ⟨rfl, unhide BB⟩
    have HS := hide hsm
    have hs0 := hsm.1
    clear hsm
    go_wp2_with fail
    refine (szActS_any a1 cap1 l1 q w1 hq m1 ((unhide HX).up (unhide BB))).mono ?_
    rintro e w2 ⟨⟨m2, rfl, hmm2⟩, hb2⟩
    replace E0 := hide (row_up (w := w1) (unhide E0) hb2)
    have z_w2 : w1.heap.size ≤ w2.heap.size := hb2.size
    replace BB := hide ((unhide BB).trans (hb2.mono (by show w.heap.size ≤ w1.heap.size; omega)))
    clear hb2
    have y_w2 : w.heap.size < w2.heap.size := by omega
    rcases hmm2 with rfl | ⟨q2, rfl, hq2, hsa⟩
    · go_wp2
      go_ret
      exact ⟨rfl, unhide BB⟩
    have HSA := hide hsa
    have hs1 := hsa.1
    clear hsa
    have CS := hide (fun v u x B B2 B3 wx h hu hx => spec_CutActs_any l0 l1 n2 l3 v u x B B2 B3 wx (unhide HS) (unhide HSA) h hu hnm hx)
    have CI := hide (fun v u x B B2 B3 wx h hu hx => impl_CutActs_any l0 l1 n2 l3 v u x B B2 B3 wx (unhide HS) (unhide HSA) h hu hnm hx)
    have hal : (cutV l0 l1 n2 l3).1.length ≤ 1048576 := by
      unfold cutV
      split
      · simp
      · split
        · simp
        · have := (run_small (l1.take n2.toNat) (unhide HS)).1
          show (lostL _ l3).length ≤ _
          unfold lostL
          split
          · simp [loseL, loseTo_length]; omega
          · simp
    generalize (cutV l0 l1 n2 l3).1 = ans at CS CI hal
    generalize (cutV l0 l1 n2 l3).2 = d at CS CI
    clear HSA
    have q_E0 := row_cell (unhide E0)
    go_wp2_with fail
    clear q_E0
    refine (toDisk_any a0 cap0 l0 w2 hs0 ((unhide HA).up (unhide BB))).mono ?_
    rintro e w3 ⟨v3, rfl, own3, hb3⟩
    replace E0 := hide (row_up (w := w2) (unhide E0) hb3)
    have z_w3 : w2.heap.size ≤ w3.heap.size := hb3.size
    replace BB := hide ((unhide BB).trans (hb3.mono (by show w.heap.size ≤ w2.heap.size; omega)))
    clear hb3
    have y_w3 : w.heap.size < w3.heap.size := by omega
    have O3 := hide own3
    have RO3 := hide (World.ownsRow.lt (unhide O3))
    clear own3
    go_wp2_with fail
    refine (toActS_any a1 cap1 l1 w3 hs1 ((unhide HX).up (unhide BB))).mono ?_
    rintro e w4 ⟨v4, rfl, own4, hb4⟩
    replace E0 := hide (row_up (w := w3) (unhide E0) hb4)
    replace O3 := hide (own_stays (w := w3) (unhide O3) hb4)
    have z_w4 : w3.heap.size ≤ w4.heap.size := hb4.size
    replace BB := hide ((unhide BB).trans (hb4.mono (by show w.heap.size ≤ w3.heap.size; omega)))
    clear hb4
    have y_w4 : w.heap.size < w4.heap.size := by omega
    have O4 := hide own4
    have RO4 := hide (World.ownsRow.lt (unhide O4))
    clear own4
    go_wp2_with fail
    refine (toIntS_any a3 cap3 l3 w4 hnm ((unhide HI).up (unhide BB))).mono ?_
    rintro e w5 ⟨v5, rfl, own5, hb5⟩
    replace E0 := hide (row_up (w := w4) (unhide E0) hb5)
    replace O3 := hide (own_stays (w := w4) (unhide O3) hb5)
    replace O4 := hide (own_stays (w := w4) (unhide O4) hb5)
    have z_w5 : w4.heap.size ≤ w5.heap.size := hb5.size
    replace BB := hide ((unhide BB).trans (hb5.mono (by show w.heap.size ≤ w4.heap.size; omega)))
    clear hb5
    have y_w5 : w.heap.size < w5.heap.size := by omega
    have O5 := hide own5
    have RO5 := hide (World.ownsRow.lt (unhide O5))
    clear own5
    go_wp2_with fail
    refine (unhide CS v3 v4 v5 _ _ _ w5 (unhide O3) (unhide O4) (unhide O5)).mono ?_
    rintro e w6 ⟨v6, rfl, own6, hb6⟩
    replace E0 := hide (row_up (w := w5) (unhide E0) hb6)
    replace O3 := hide (own_stays (w := w5) (unhide O3) hb6)
    replace O4 := hide (own_stays (w := w5) (unhide O4) hb6)
    replace O5 := hide (own_stays (w := w5) (unhide O5) hb6)
    have z_w6 : w5.heap.size ≤ w6.heap.size := hb6.size
    replace BB := hide ((unhide BB).trans (hb6.mono (by show w.heap.size ≤ w5.heap.size; omega)))
    clear hb6
    have y_w6 : w.heap.size < w6.heap.size := by omega
    have O6 := hide own6
    have RO6 := hide (World.ownsRow.lt (unhide O6))
    clear own6
    clear O3 O4 O5
    obtain ⟨xa6, xn6, xc6, hv6⟩ := own_shape (unhide O6)
    subst hv6
    have q_E0 := row_cell (unhide E0)
    have qa_E0 := fun o => cell_on ((Below.refl w6.heap.size w6).alloc (Nat.le_refl _) o) q_E0
    go_wp2_with fail
    clear q_E0 qa_E0
    have hx : (w6.alloc (.cells #[.slice xa6 xn6 xc6] 29)).heap[w6.heap.size]? = some (.cells #[.slice xa6 xn6 xc6] 29 (0, 0)) := heap_alloc_new _ _
    have hbx := (Below.refl w6.heap.size w6).alloc (Nat.le_refl _) (.cells #[.slice xa6 xn6 xc6] 29)
    have hzx : (w6.alloc (.cells #[.slice xa6 xn6 xc6] 29)).heap.size = w6.heap.size + 1 := by simp
    obtain ⟨w7, hWx⟩ : ∃ W, W = w6.alloc (.cells #[.slice xa6 xn6 xc6] 29) := ⟨_, rfl⟩
    rw [← hWx] at hx hbx hzx ⊢
    clear hWx
    replace E0 := hide (row_up (w := w6) (unhide E0) hbx)
    replace O6 := hide (own_stays (w := w6) (unhide O6) hbx)
    have z_w7 : w6.heap.size ≤ w7.heap.size := hbx.size
    replace BB := hide ((unhide BB).trans (hbx.mono (by show w.heap.size ≤ w6.heap.size; omega)))
    clear hbx
    have y_w7 : w.heap.size < w7.heap.size := by omega
    have zz_w7 : w6.heap.size < w7.heap.size := by omega
    clear hzx
    have X6 := hide hx
    clear hx
    refine (toDisk_any a0 cap0 l0 w7 hs0 ((unhide HA).up (unhide BB))).mono ?_
    rintro e w8 ⟨v8, rfl, own8, hb8⟩
    replace E0 := hide (row_up (w := w7) (unhide E0) hb8)
    replace X6 := hide (row_up (w := w7) (unhide X6) hb8)
    replace O6 := hide (own_stays (w := w7) (unhide O6) hb8)
    have z_w8 : w7.heap.size ≤ w8.heap.size := hb8.size
    replace BB := hide ((unhide BB).trans (hb8.mono (by show w.heap.size ≤ w7.heap.size; omega)))
    clear hb8
    have y_w8 : w.heap.size < w8.heap.size := by omega
    have O8 := hide own8
    have RO8 := hide (World.ownsRow.lt (unhide O8))
    clear own8
    obtain ⟨xa8, xn8, xc8, hv8⟩ := own_shape (unhide O8)
    subst hv8
    go_wp2_with fail
    have hx : (w8.alloc (.cells #[.slice xa8 xn8 xc8] 29)).heap[w8.heap.size]? = some (.cells #[.slice xa8 xn8 xc8] 29 (0, 0)) := heap_alloc_new _ _
    have hbx := (Below.refl w8.heap.size w8).alloc (Nat.le_refl _) (.cells #[.slice xa8 xn8 xc8] 29)
    have hzx : (w8.alloc (.cells #[.slice xa8 xn8 xc8] 29)).heap.size = w8.heap.size + 1 := by simp
    obtain ⟨w9, hWx⟩ : ∃ W, W = w8.alloc (.cells #[.slice xa8 xn8 xc8] 29) := ⟨_, rfl⟩
    rw [← hWx] at hx hbx hzx ⊢
    clear hWx
    replace E0 := hide (row_up (w := w8) (unhide E0) hbx)
    replace X6 := hide (row_up (w := w8) (unhide X6) hbx)
    replace O6 := hide (own_stays (w := w8) (unhide O6) hbx)
    replace O8 := hide (own_stays (w := w8) (unhide O8) hbx)
    have z_w9 : w8.heap.size ≤ w9.heap.size := hbx.size
    replace BB := hide ((unhide BB).trans (hbx.mono (by show w.heap.size ≤ w8.heap.size; omega)))
    clear hbx
    have y_w9 : w.heap.size < w9.heap.size := by omega
    have zz_w9 : w8.heap.size < w9.heap.size := by omega
    clear hzx
    have X8 := hide hx
    clear hx
    refine (toActS_any a1 cap1 l1 w9 hs1 ((unhide HX).up (unhide BB))).mono ?_
    rintro e w10 ⟨v10, rfl, own10, hb10⟩
    replace E0 := hide (row_up (w := w9) (unhide E0) hb10)
    replace X6 := hide (row_up (w := w9) (unhide X6) hb10)
    replace X8 := hide (row_up (w := w9) (unhide X8) hb10)
    replace O6 := hide (own_stays (w := w9) (unhide O6) hb10)
    replace O8 := hide (own_stays (w := w9) (unhide O8) hb10)
    have z_w10 : w9.heap.size ≤ w10.heap.size := hb10.size
    replace BB := hide ((unhide BB).trans (hb10.mono (by show w.heap.size ≤ w9.heap.size; omega)))
    clear hb10
    have y_w10 : w.heap.size < w10.heap.size := by omega
    have O10 := hide own10
    have RO10 := hide (World.ownsRow.lt (unhide O10))
    clear own10
    go_wp2_with fail
    refine (toIntS_any a3 cap3 l3 w10 hnm ((unhide HI).up (unhide BB))).mono ?_
    rintro e w11 ⟨v11, rfl, own11, hb11⟩
    replace E0 := hide (row_up (w := w10) (unhide E0) hb11)
    replace X6 := hide (row_up (w := w10) (unhide X6) hb11)
    replace X8 := hide (row_up (w := w10) (unhide X8) hb11)
    replace O6 := hide (own_stays (w := w10) (unhide O6) hb11)
    replace O8 := hide (own_stays (w := w10) (unhide O8) hb11)
    replace O10 := hide (own_stays (w := w10) (unhide O10) hb11)
    have z_w11 : w10.heap.size ≤ w11.heap.size := hb11.size
    replace BB := hide ((unhide BB).trans (hb11.mono (by show w.heap.size ≤ w10.heap.size; omega)))
    clear hb11
    have y_w11 : w.heap.size < w11.heap.size := by omega
    have O11 := hide own11
    have RO11 := hide (World.ownsRow.lt (unhide O11))
    clear own11
    have q_X8 := row_cell (unhide X8)
    go_wp2_with fail
    clear q_X8
    refine (unhide CI _ v10 v11 _ _ _ w11 (unhide O8) (unhide O10) (unhide O11)).mono ?_
    rintro e w12 ⟨v12, rfl, own12, hb12⟩
    replace E0 := hide (row_up (w := w11) (unhide E0) hb12)
    replace X6 := hide (row_up (w := w11) (unhide X6) hb12)
    replace X8 := hide (row_up (w := w11) (unhide X8) hb12)
    replace O6 := hide (own_stays (w := w11) (unhide O6) hb12)
    replace O8 := hide (own_stays (w := w11) (unhide O8) hb12)
    replace O10 := hide (own_stays (w := w11) (unhide O10) hb12)
    replace O11 := hide (own_stays (w := w11) (unhide O11) hb12)
    have z_w12 : w11.heap.size ≤ w12.heap.size := hb12.size
    replace BB := hide ((unhide BB).trans (hb12.mono (by show w.heap.size ≤ w11.heap.size; omega)))
    clear hb12
    have y_w12 : w.heap.size < w12.heap.size := by omega
    have O12 := hide own12
    have RO12 := hide (World.ownsRow.lt (unhide O12))
    clear own12
    obtain ⟨xa12, xn12, xc12, hv12⟩ := own_shape (unhide O12)
    subst hv12
    have q_X6 := row_cell (unhide X6)
    have qa_X6 := fun o => cell_on ((Below.refl w12.heap.size w12).alloc (Nat.le_refl _) o) q_X6
    go_wp2_with fail
    clear q_X6 qa_X6
    have hx : (w12.alloc (.cells #[.slice xa12 xn12 xc12] 29)).heap[w12.heap.size]? = some (.cells #[.slice xa12 xn12 xc12] 29 (0, 0)) := heap_alloc_new _ _
    have hbx := (Below.refl w12.heap.size w12).alloc (Nat.le_refl _) (.cells #[.slice xa12 xn12 xc12] 29)
    have hzx : (w12.alloc (.cells #[.slice xa12 xn12 xc12] 29)).heap.size = w12.heap.size + 1 := by simp
    obtain ⟨w13, hWx⟩ : ∃ W, W = w12.alloc (.cells #[.slice xa12 xn12 xc12] 29) := ⟨_, rfl⟩
    rw [← hWx] at hx hbx hzx ⊢
    clear hWx
    replace E0 := hide (row_up (w := w12) (unhide E0) hbx)
    replace X6 := hide (row_up (w := w12) (unhide X6) hbx)
    replace X8 := hide (row_up (w := w12) (unhide X8) hbx)
    replace O6 := hide (own_stays (w := w12) (unhide O6) hbx)
    replace O8 := hide (own_stays (w := w12) (unhide O8) hbx)
    replace O10 := hide (own_stays (w := w12) (unhide O10) hbx)
    replace O11 := hide (own_stays (w := w12) (unhide O11) hbx)
    replace O12 := hide (own_stays (w := w12) (unhide O12) hbx)
    have z_w13 : w12.heap.size ≤ w13.heap.size := hbx.size
    replace BB := hide ((unhide BB).trans (hbx.mono (by show w.heap.size ≤ w12.heap.size; omega)))
    clear hbx
    have y_w13 : w.heap.size < w13.heap.size := by omega
    have zz_w13 : w12.heap.size < w13.heap.size := by omega
    clear hzx
    have X12 := hide hx
    clear hx
    refine (eqDisk_same ans _ _ _ _ w13 hal (unhide O12) (unhide O6)).mono ?_
    rintro e w14 ⟨rfl, hb14⟩
    replace E0 := hide (row_up (w := w13) (unhide E0) hb14)
    replace X6 := hide (row_up (w := w13) (unhide X6) hb14)
    replace X8 := hide (row_up (w := w13) (unhide X8) hb14)
    replace X12 := hide (row_up (w := w13) (unhide X12) hb14)
    replace O6 := hide (own_stays (w := w13) (unhide O6) hb14)
    replace O8 := hide (own_stays (w := w13) (unhide O8) hb14)
    replace O10 := hide (own_stays (w := w13) (unhide O10) hb14)
    replace O11 := hide (own_stays (w := w13) (unhide O11) hb14)
    replace O12 := hide (own_stays (w := w13) (unhide O12) hb14)
    have z_w14 : w13.heap.size ≤ w14.heap.size := hb14.size
    replace BB := hide ((unhide BB).trans (hb14.mono (by show w.heap.size ≤ w13.heap.size; omega)))
    clear hb14
    have y_w14 : w.heap.size < w14.heap.size := by omega
    go_wp2
    have s8 := row_cell (unhide X8)
    have sE := row_cell (unhide E0)
    refine wp_region_held_drew (S := fun w' => w'.cell? ⟨w8.heap.size, 0, none⟩ = some (.slice xa8 xn8 xc8) ∧ w'.cell? ⟨w.heap.size, 0, none⟩ = some (.slice a0 l0.length cap0)) (by kernel_rfl) (⟨s8, sE⟩) (fun hHeld => ?_)
    refine takeVal 0 (some 69) ?_ rfl (by kernel_rfl) (by kernel_rfl) (by kernel_rfl) rfl (fun _ _ _ h => h) (by rfl) (by assumption) ?_ ?_
    rotate_left
    · (intro w hSw; (try dsimp only at hSw); go_simp <;> with_reducible rfl)
    simp only [Act.put, List.setIfInBounds_toArray, List.set_cons_zero, List.set_cons_succ]
    refine takeVal 1 (some 70) ?_ rfl (by kernel_rfl) (by kernel_rfl) (by kernel_rfl) rfl (fun _ _ _ h => h) (by rfl) (by assumption) ?_ ?_
    rotate_left
    · (intro w hSw; (try dsimp only at hSw); go_simp <;> with_reducible rfl)
    simp only [Act.put, List.setIfInBounds_toArray, List.set_cons_zero, List.set_cons_succ]
    refine wpAnyH_ready (rs := [2]) (by kernel_rfl) (by simp) ?_
    refine AllReadyH.cons rfl (fun K hK => ?_) AllReadyH.nil
    go_simp
    refine (toDisk_any a0 cap0 l0 w14.drew hs0 ((unhide HA).up (unhide BB).drew)).mono ?_
    rintro e w15 ⟨vz, rfl, ownz, hb15⟩
    go_wp2_with fail
    refine hK.out _ _ (⟨cell_on (w := w14.drew) hb15 s8, cell_on (w := w14.drew) hb15 sE⟩) (fun hHeld2 => ?_)
    clear hK K hHeld
    have hHeld := hHeld2; clear hHeld2
    try simp only [Act.put, List.setIfInBounds_toArray, List.set_cons_zero, List.set_cons_succ]
    refine wpAnyH_ready (rs := [3]) (by kernel_rfl) (by simp) ?_
    refine AllReadyH.cons rfl (fun K hK => ?_) AllReadyH.nil
    go_simp
    refine (eqDisk_same l0 _ vz _ _ w15 hs0 (own_stays (w := w14.drew) (unhide O8) hb15) ownz).mono ?_
    rintro e w16 ⟨rfl, hb16⟩
    go_wp2_with fail
    refine hK.out _ _ (⟨cell_on hb16 hHeld.1, cell_on hb16 hHeld.2⟩) (fun hHeld2 => ?_)
    clear hK K hHeld
    have hHeld := hHeld2; clear hHeld2
    try simp only [Act.put, List.setIfInBounds_toArray, List.set_cons_zero, List.set_cons_succ]
    refine takeVal 4 (some 73) ?_ rfl (by kernel_rfl) (by kernel_rfl) (by kernel_rfl) rfl (fun _ _ _ h => h) (by rfl) (by assumption) ?_ ?_
    rotate_left
    · (intro w hSw; (try dsimp only at hSw); go_simp <;> with_reducible rfl)
    simp only [Act.put, List.setIfInBounds_toArray, List.set_cons_zero, List.set_cons_succ]
    refine wpAnyH_done (by kernel_rfl) ?_ _
    clear ownz s8 sE hHeld
    replace E0 := hide (row_up (w := w14.drew) (unhide E0) hb15)
    replace X6 := hide (row_up (w := w14.drew) (unhide X6) hb15)
    replace X8 := hide (row_up (w := w14.drew) (unhide X8) hb15)
    replace X12 := hide (row_up (w := w14.drew) (unhide X12) hb15)
    replace O6 := hide (own_stays (w := w14.drew) (unhide O6) hb15)
    replace O8 := hide (own_stays (w := w14.drew) (unhide O8) hb15)
    replace O10 := hide (own_stays (w := w14.drew) (unhide O10) hb15)
    replace O11 := hide (own_stays (w := w14.drew) (unhide O11) hb15)
    replace O12 := hide (own_stays (w := w14.drew) (unhide O12) hb15)
    have z_w15 : w14.heap.size ≤ w15.heap.size := hb15.size
    replace BB := hide ((unhide BB).drew.trans (hb15.mono (by show w.heap.size ≤ w14.heap.size; omega)))
    clear hb15
    have y_w15 : w.heap.size < w15.heap.size := by omega
    replace E0 := hide (row_up (w := w15) (unhide E0) hb16)
    replace X6 := hide (row_up (w := w15) (unhide X6) hb16)
    replace X8 := hide (row_up (w := w15) (unhide X8) hb16)
    replace X12 := hide (row_up (w := w15) (unhide X12) hb16)
    replace O6 := hide (own_stays (w := w15) (unhide O6) hb16)
    replace O8 := hide (own_stays (w := w15) (unhide O8) hb16)
    replace O10 := hide (own_stays (w := w15) (unhide O10) hb16)
    replace O11 := hide (own_stays (w := w15) (unhide O11) hb16)
    replace O12 := hide (own_stays (w := w15) (unhide O12) hb16)
    have z_w16 : w15.heap.size ≤ w16.heap.size := hb16.size
    replace BB := hide ((unhide BB).trans (hb16.mono (by show w.heap.size ≤ w15.heap.size; omega)))
    clear hb16
    have y_w16 : w.heap.size < w16.heap.size := by omega
    go_wp2_with fail
    refine (toActS_any a1 cap1 l1 w16 hs1 ((unhide HX).up (unhide BB))).mono ?_
    rintro e w17 ⟨v17, rfl, own17, hb17⟩
    replace E0 := hide (row_up (w := w16) (unhide E0) hb17)
    replace X6 := hide (row_up (w := w16) (unhide X6) hb17)
    replace X8 := hide (row_up (w := w16) (unhide X8) hb17)
    replace X12 := hide (row_up (w := w16) (unhide X12) hb17)
    replace O6 := hide (own_stays (w := w16) (unhide O6) hb17)
    replace O8 := hide (own_stays (w := w16) (unhide O8) hb17)
    replace O10 := hide (own_stays (w := w16) (unhide O10) hb17)
    replace O11 := hide (own_stays (w := w16) (unhide O11) hb17)
    replace O12 := hide (own_stays (w := w16) (unhide O12) hb17)
    have z_w17 : w16.heap.size ≤ w17.heap.size := hb17.size
    replace BB := hide ((unhide BB).trans (hb17.mono (by show w.heap.size ≤ w16.heap.size; omega)))
    clear hb17
    have y_w17 : w.heap.size < w17.heap.size := by omega
    have O17 := hide own17
    have RO17 := hide (World.ownsRow.lt (unhide O17))
    clear own17
    go_wp2_with fail
    refine (eqActS_same l1 v10 v17 _ _ w17 hs1 (unhide O10) (unhide O17)).mono ?_
    rintro e w18 ⟨rfl, hb18⟩
    clear O17
    replace E0 := hide (row_up (w := w17) (unhide E0) hb18)
    replace X6 := hide (row_up (w := w17) (unhide X6) hb18)
    replace X8 := hide (row_up (w := w17) (unhide X8) hb18)
    replace X12 := hide (row_up (w := w17) (unhide X12) hb18)
    replace O6 := hide (own_stays (w := w17) (unhide O6) hb18)
    replace O8 := hide (own_stays (w := w17) (unhide O8) hb18)
    replace O10 := hide (own_stays (w := w17) (unhide O10) hb18)
    replace O11 := hide (own_stays (w := w17) (unhide O11) hb18)
    replace O12 := hide (own_stays (w := w17) (unhide O12) hb18)
    have z_w18 : w17.heap.size ≤ w18.heap.size := hb18.size
    replace BB := hide ((unhide BB).trans (hb18.mono (by show w.heap.size ≤ w17.heap.size; omega)))
    clear hb18
    have y_w18 : w.heap.size < w18.heap.size := by omega
    go_wp2_with fail
    refine (toIntS_any a3 cap3 l3 w18 hnm ((unhide HI).up (unhide BB))).mono ?_
    rintro e w19 ⟨v19, rfl, own19, hb19⟩
    replace E0 := hide (row_up (w := w18) (unhide E0) hb19)
    replace X6 := hide (row_up (w := w18) (unhide X6) hb19)
    replace X8 := hide (row_up (w := w18) (unhide X8) hb19)
    replace X12 := hide (row_up (w := w18) (unhide X12) hb19)
    replace O6 := hide (own_stays (w := w18) (unhide O6) hb19)
    replace O8 := hide (own_stays (w := w18) (unhide O8) hb19)
    replace O10 := hide (own_stays (w := w18) (unhide O10) hb19)
    replace O11 := hide (own_stays (w := w18) (unhide O11) hb19)
    replace O12 := hide (own_stays (w := w18) (unhide O12) hb19)
    have z_w19 : w18.heap.size ≤ w19.heap.size := hb19.size
    replace BB := hide ((unhide BB).trans (hb19.mono (by show w.heap.size ≤ w18.heap.size; omega)))
    clear hb19
    have y_w19 : w.heap.size < w19.heap.size := by omega
    have O19 := hide own19
    have RO19 := hide (World.ownsRow.lt (unhide O19))
    clear own19
    go_wp2_with fail
    refine (eqIntS_same l3 v11 v19 _ _ w19 hnm (unhide O11) (unhide O19)).mono ?_
    rintro e w20 ⟨rfl, hb20⟩
    clear O19
    replace E0 := hide (row_up (w := w19) (unhide E0) hb20)
    replace X6 := hide (row_up (w := w19) (unhide X6) hb20)
    replace X8 := hide (row_up (w := w19) (unhide X8) hb20)
    replace X12 := hide (row_up (w := w19) (unhide X12) hb20)
    replace O6 := hide (own_stays (w := w19) (unhide O6) hb20)
    replace O8 := hide (own_stays (w := w19) (unhide O8) hb20)
    replace O10 := hide (own_stays (w := w19) (unhide O10) hb20)
    replace O11 := hide (own_stays (w := w19) (unhide O11) hb20)
    replace O12 := hide (own_stays (w := w19) (unhide O12) hb20)
    have z_w20 : w19.heap.size ≤ w20.heap.size := hb20.size
    replace BB := hide ((unhide BB).trans (hb20.mono (by show w.heap.size ≤ w19.heap.size; omega)))
    clear hb20
    have y_w20 : w.heap.size < w20.heap.size := by omega
    have q_X8 := row_cell (unhide X8)
    go_wp2_with fail
    clear q_X8
    refine (markDisk_any l0 _ _ 1 w20 hs0 (by omega) (by omega) (unhide O8)).mono ?_
    rintro e w21 ⟨rfl, ownm, hg21⟩
    clear ownm
    replace E0 := hide (row_aside (unhide E0) (unhide O8) (by decide) hg21)
    replace X6 := hide (row_aside (unhide X6) (unhide O8) (by decide) hg21)
    replace X8 := hide (row_aside (unhide X8) (unhide O8) (by decide) hg21)
    replace X12 := hide (row_aside (unhide X12) (unhide O8) (by decide) hg21)
    replace O6 := hide (own_aside (unhide O6) hg21 (unhide RO6) (unhide RO8) (by omega))
    replace O10 := hide (own_aside (unhide O10) hg21 (unhide RO10) (unhide RO8) (by omega))
    replace O11 := hide (own_aside (unhide O11) hg21 (unhide RO11) (unhide RO8) (by omega))
    replace O12 := hide (own_aside (unhide O12) hg21 (unhide RO12) (unhide RO8) (by omega))
    have z_w21 : w20.heap.size ≤ w21.heap.size := hg21.size
    replace BB := hide (below_aside (unhide BB) hg21 (unhide RO8) (by omega) (by omega))
    clear hg21
    have y_w21 : w.heap.size < w21.heap.size := by omega
    clear X8
    obtain ⟨K, hK⟩ : ∃ K, K = 1 + l0.length * 3 := ⟨_, rfl⟩
    rw [← hK]
    have hKb : 1 ≤ K ∧ K ≤ 4000000 := by omega
    clear hK
    go_wp2_with fail
    refine (markActS_any l1 v10 _ K w21 hs1 hKb.1 (by omega) (unhide O10)).mono ?_
    rintro e w22 ⟨rfl, hg22⟩
    replace E0 := hide (row_aside (unhide E0) (unhide O10) (by decide) hg22)
    replace X6 := hide (row_aside (unhide X6) (unhide O10) (by decide) hg22)
    replace X12 := hide (row_aside (unhide X12) (unhide O10) (by decide) hg22)
    replace O6 := hide (own_aside (unhide O6) hg22 (unhide RO6) (unhide RO10) (by omega))
    replace O11 := hide (own_aside (unhide O11) hg22 (unhide RO11) (unhide RO10) (by omega))
    replace O12 := hide (own_aside (unhide O12) hg22 (unhide RO12) (unhide RO10) (by omega))
    have z_w22 : w21.heap.size ≤ w22.heap.size := hg22.size
    replace BB := hide (below_aside (unhide BB) hg22 (unhide RO10) (by omega) (by omega))
    clear hg22
    have y_w22 : w.heap.size < w22.heap.size := by omega
    obtain ⟨K2, hK2⟩ : ∃ K2, K2 = K + l1.length * 4 := ⟨_, rfl⟩
    rw [← hK2]
    have hKc : K2 ≤ 9000000 := by omega
    clear hK2
    go_wp2_with fail
    refine (markIntS_any l3 v11 _ K2 w22 hnm (by omega) (unhide O11)).mono ?_
    rintro e w23 ⟨rfl, hg23⟩
    replace E0 := hide (row_aside (unhide E0) (unhide O11) (by decide) hg23)
    replace X6 := hide (row_aside (unhide X6) (unhide O11) (by decide) hg23)
    replace X12 := hide (row_aside (unhide X12) (unhide O11) (by decide) hg23)
    replace O6 := hide (own_aside (unhide O6) hg23 (unhide RO6) (unhide RO11) (by omega))
    replace O12 := hide (own_aside (unhide O12) hg23 (unhide RO12) (unhide RO11) (by omega))
    have z_w23 : w22.heap.size ≤ w23.heap.size := hg23.size
    replace BB := hide (below_aside (unhide BB) hg23 (unhide RO11) (by omega) (by omega))
    clear hg23
    have y_w23 : w.heap.size < w23.heap.size := by omega
    generalize K2 + l3.length = K3
    have q_X12 := row_cell (unhide X12)
    have q_X6 := row_cell (unhide X6)
    go_wp2_with fail
    clear q_X12 q_X6
    refine (eqDisk_same ans _ _ _ _ w23 hal (unhide O12) (unhide O6)).mono ?_
    rintro e w24 ⟨rfl, hb24⟩
    replace E0 := hide (row_up (w := w23) (unhide E0) hb24)
    replace X6 := hide (row_up (w := w23) (unhide X6) hb24)
    replace X12 := hide (row_up (w := w23) (unhide X12) hb24)
    replace O6 := hide (own_stays (w := w23) (unhide O6) hb24)
    replace O12 := hide (own_stays (w := w23) (unhide O12) hb24)
    have z_w24 : w23.heap.size ≤ w24.heap.size := hb24.size
    replace BB := hide ((unhide BB).trans (hb24.mono (by show w.heap.size ≤ w23.heap.size; omega)))
    clear hb24
    have y_w24 : w.heap.size < w24.heap.size := by omega
    have q_X12 := row_cell (unhide X12)
    go_wp2_with fail
    clear q_X12
    refine (markDisk_any ans _ _ 1 w24 hal (by omega) (by omega) (unhide O12)).mono ?_
    rintro e w25 ⟨rfl, ownm, hg25⟩
    replace E0 := hide (row_aside (unhide E0) (unhide O12) (by decide) hg25)
    replace X6 := hide (row_aside (unhide X6) (unhide O12) (by decide) hg25)
    replace X12 := hide (row_aside (unhide X12) (unhide O12) (by decide) hg25)
    replace O6 := hide (own_aside (unhide O6) hg25 (unhide RO6) (unhide RO12) (by omega))
    have z_w25 : w24.heap.size ≤ w25.heap.size := hg25.size
    replace BB := hide (below_aside (unhide BB) hg25 (unhide RO12) (by omega) (by omega))
    clear hg25
    have y_w25 : w.heap.size < w25.heap.size := by omega
    have OM := hide ownm
    clear ownm
    have CH := hide (fun v B wx h => heldDisk_any ans.length v B 1 wx hal (by omega) (by omega) h)
    obtain ⟨K4, hK4⟩ : ∃ K, K = 1 + ans.length * 3 := ⟨_, rfl⟩
    rw [← hK4] at CH ⊢
    clear hK4
    have q_X12 := row_cell (unhide X12)
    go_wp2_with fail
    clear q_X12
    refine (unhide CH _ _ w25 (unhide OM)).mono ?_
    rintro e w26 ⟨rfl, hb26⟩
    replace E0 := hide (row_up (w := w25) (unhide E0) hb26)
    replace X6 := hide (row_up (w := w25) (unhide X6) hb26)
    replace X12 := hide (row_up (w := w25) (unhide X12) hb26)
    replace O6 := hide (own_stays (w := w25) (unhide O6) hb26)
    replace OM := hide (own_stays (w := w25) (unhide OM) hb26)
    have z_w26 : w25.heap.size ≤ w26.heap.size := hb26.size
    replace BB := hide ((unhide BB).trans (hb26.mono (by show w.heap.size ≤ w25.heap.size; omega)))
    clear hb26
    have y_w26 : w.heap.size < w26.heap.size := by omega
    have q_E0 := row_cell (unhide E0)
    go_wp2_with fail
    clear q_E0
    refine (toDisk_any a0 cap0 l0 w26 hs0 ((unhide HA).up (unhide BB))).mono ?_
    rintro e w27 ⟨v27, rfl, own27, hb27⟩
    replace E0 := hide (row_up (w := w26) (unhide E0) hb27)
    replace X6 := hide (row_up (w := w26) (unhide X6) hb27)
    replace X12 := hide (row_up (w := w26) (unhide X12) hb27)
    replace O6 := hide (own_stays (w := w26) (unhide O6) hb27)
    replace OM := hide (own_stays (w := w26) (unhide OM) hb27)
    have z_w27 : w26.heap.size ≤ w27.heap.size := hb27.size
    replace BB := hide ((unhide BB).trans (hb27.mono (by show w.heap.size ≤ w26.heap.size; omega)))
    clear hb27
    have y_w27 : w.heap.size < w27.heap.size := by omega
    have O27 := hide own27
    have RO27 := hide (World.ownsRow.lt (unhide O27))
    clear own27
    go_wp2_with fail
    refine (toActS_any a1 cap1 l1 w27 hs1 ((unhide HX).up (unhide BB))).mono ?_
    rintro e w28 ⟨v28, rfl, own28, hb28⟩
    replace E0 := hide (row_up (w := w27) (unhide E0) hb28)
    replace X6 := hide (row_up (w := w27) (unhide X6) hb28)
    replace X12 := hide (row_up (w := w27) (unhide X12) hb28)
    replace O6 := hide (own_stays (w := w27) (unhide O6) hb28)
    replace OM := hide (own_stays (w := w27) (unhide OM) hb28)
    replace O27 := hide (own_stays (w := w27) (unhide O27) hb28)
    have z_w28 : w27.heap.size ≤ w28.heap.size := hb28.size
    replace BB := hide ((unhide BB).trans (hb28.mono (by show w.heap.size ≤ w27.heap.size; omega)))
    clear hb28
    have y_w28 : w.heap.size < w28.heap.size := by omega
    have O28 := hide own28
    have RO28 := hide (World.ownsRow.lt (unhide O28))
    clear own28
    go_wp2_with fail
    refine (toIntS_any a3 cap3 l3 w28 hnm ((unhide HI).up (unhide BB))).mono ?_
    rintro e w29 ⟨v29, rfl, own29, hb29⟩
    replace E0 := hide (row_up (w := w28) (unhide E0) hb29)
    replace X6 := hide (row_up (w := w28) (unhide X6) hb29)
    replace X12 := hide (row_up (w := w28) (unhide X12) hb29)
    replace O6 := hide (own_stays (w := w28) (unhide O6) hb29)
    replace OM := hide (own_stays (w := w28) (unhide OM) hb29)
    replace O27 := hide (own_stays (w := w28) (unhide O27) hb29)
    replace O28 := hide (own_stays (w := w28) (unhide O28) hb29)
    have z_w29 : w28.heap.size ≤ w29.heap.size := hb29.size
    replace BB := hide ((unhide BB).trans (hb29.mono (by show w.heap.size ≤ w28.heap.size; omega)))
    clear hb29
    have y_w29 : w.heap.size < w29.heap.size := by omega
    have O29 := hide own29
    have RO29 := hide (World.ownsRow.lt (unhide O29))
    clear own29
    go_wp2_with fail
    refine (unhide CI v27 v28 v29 _ _ _ w29 (unhide O27) (unhide O28) (unhide O29)).mono ?_
    rintro e w30 ⟨v30, rfl, own30, hb30⟩
    replace E0 := hide (row_up (w := w29) (unhide E0) hb30)
    replace X6 := hide (row_up (w := w29) (unhide X6) hb30)
    replace X12 := hide (row_up (w := w29) (unhide X12) hb30)
    replace O6 := hide (own_stays (w := w29) (unhide O6) hb30)
    replace OM := hide (own_stays (w := w29) (unhide OM) hb30)
    replace O27 := hide (own_stays (w := w29) (unhide O27) hb30)
    replace O28 := hide (own_stays (w := w29) (unhide O28) hb30)
    replace O29 := hide (own_stays (w := w29) (unhide O29) hb30)
    have z_w30 : w29.heap.size ≤ w30.heap.size := hb30.size
    replace BB := hide ((unhide BB).trans (hb30.mono (by show w.heap.size ≤ w29.heap.size; omega)))
    clear hb30
    have y_w30 : w.heap.size < w30.heap.size := by omega
    have O30 := hide own30
    have RO30 := hide (World.ownsRow.lt (unhide O30))
    clear own30
    clear O27 O28 O29
    obtain ⟨xa30, xn30, xc30, hv30⟩ := own_shape (unhide O30)
    subst hv30
    have q_X6 := row_cell (unhide X6)
    have qa_X6 := fun o => cell_on ((Below.refl w30.heap.size w30).alloc (Nat.le_refl _) o) q_X6
    go_wp2_with fail
    clear q_X6 qa_X6
    have hx : (w30.alloc (.cells #[.slice xa30 xn30 xc30] 29)).heap[w30.heap.size]? = some (.cells #[.slice xa30 xn30 xc30] 29 (0, 0)) := heap_alloc_new _ _
    have hbx := (Below.refl w30.heap.size w30).alloc (Nat.le_refl _) (.cells #[.slice xa30 xn30 xc30] 29)
    have hzx : (w30.alloc (.cells #[.slice xa30 xn30 xc30] 29)).heap.size = w30.heap.size + 1 := by simp
    obtain ⟨w31, hWx⟩ : ∃ W, W = w30.alloc (.cells #[.slice xa30 xn30 xc30] 29) := ⟨_, rfl⟩
    rw [← hWx] at hx hbx hzx ⊢
    clear hWx
    replace E0 := hide (row_up (w := w30) (unhide E0) hbx)
    replace X6 := hide (row_up (w := w30) (unhide X6) hbx)
    replace X12 := hide (row_up (w := w30) (unhide X12) hbx)
    replace O6 := hide (own_stays (w := w30) (unhide O6) hbx)
    replace OM := hide (own_stays (w := w30) (unhide OM) hbx)
    replace O30 := hide (own_stays (w := w30) (unhide O30) hbx)
    have z_w31 : w30.heap.size ≤ w31.heap.size := hbx.size
    replace BB := hide ((unhide BB).trans (hbx.mono (by show w.heap.size ≤ w30.heap.size; omega)))
    clear hbx
    have y_w31 : w.heap.size < w31.heap.size := by omega
    have zz_w31 : w30.heap.size < w31.heap.size := by omega
    clear hzx
    have X30 := hide hx
    clear hx
    refine (eqDisk_same ans _ _ _ _ w31 hal (unhide O30) (unhide O6)).mono ?_
    rintro e w32 ⟨rfl, hb32⟩
    clear X30 O30
    replace E0 := hide (row_up (w := w31) (unhide E0) hb32)
    replace X6 := hide (row_up (w := w31) (unhide X6) hb32)
    replace X12 := hide (row_up (w := w31) (unhide X12) hb32)
    replace O6 := hide (own_stays (w := w31) (unhide O6) hb32)
    replace OM := hide (own_stays (w := w31) (unhide OM) hb32)
    have z_w32 : w31.heap.size ≤ w32.heap.size := hb32.size
    replace BB := hide ((unhide BB).trans (hb32.mono (by show w.heap.size ≤ w31.heap.size; omega)))
    clear hb32
    have y_w32 : w.heap.size < w32.heap.size := by omega
    have q_X12 := row_cell (unhide X12)
    go_wp2_with fail
    clear q_X12
    refine (unhide CH _ _ w32 (unhide OM)).mono ?_
    rintro e w33 ⟨rfl, hb33⟩
    replace E0 := hide (row_up (w := w32) (unhide E0) hb33)
    replace X6 := hide (row_up (w := w32) (unhide X6) hb33)
    replace X12 := hide (row_up (w := w32) (unhide X12) hb33)
    replace O6 := hide (own_stays (w := w32) (unhide O6) hb33)
    replace OM := hide (own_stays (w := w32) (unhide OM) hb33)
    have z_w33 : w32.heap.size ≤ w33.heap.size := hb33.size
    replace BB := hide ((unhide BB).trans (hb33.mono (by show w.heap.size ≤ w32.heap.size; omega)))
    clear hb33
    have y_w33 : w.heap.size < w33.heap.size := by omega
    go_wp2
    go_ret
    exact ⟨rfl, unhide BB⟩
  · clear h0 h1 h3
    go_enter Try.func4, Try.ntmps4
    go_wp2
    go_ret
    exact ⟨rfl, by go_grown⟩

set_option maxRecDepth 100000 in
theorem lifted (os : Os) (started : os.Started) (H : Type) (enc : TypeId × Value → H) :
    ReturnsInHanded {} Try.checked os 4 .any (Rows.fnExactCutActsSpec.pre6 enc Try.prog Try.f4 Rows.fnExactCutActsRow.domain false) (Rows.fnExactCutActsSpec.post enc Try.prog Try.f4 false true false false) := by
  refine returnsInHanded_of_change (C := Try.checked) own started (by kernel_rfl) Try.func4
    (ChangeSpec.witness6 (enc := enc) (C := Try.checked) false ⟨#[], #[.agg #[.slice none 0 0], .slice none 0 0, .int .i64 0, .slice none 0 0], []⟩ 8 (by kernel_rfl) (by kernel_rfl) (by kernel_rfl) (by kernel_rfl)) ?_
  intro W base args ds gs before hval0 hW hcnd _
  have hval : ∀ (j : Nat) t v, Try.f4.params[j]? = some t → args[j]? = some v → Value.okWide Try.prog W .any base t v := hval0
  have hW' := hW
  obtain ⟨p, q, hA0, hV, rfl, hfz, hnd⟩ := hW
  have hA : DataW.TrodAll enc Try.prog W 0 (fun _ => true) true Try.f4.params.toList args.toList ds p := hA0
  rw [Try.params4] at hA hval
  obtain ⟨v0, vs0, d0, ds0, p0, q0, hargs, rfl, rfl, h0, r0⟩ := trodAll_cons hA
  obtain ⟨v1, vs1, d1, ds1, p1, q1, rfl, rfl, rfl, h1, r1⟩ := trodAll_cons r0
  obtain ⟨v2, vs2, d2, ds2, p2, q2, rfl, rfl, rfl, h2, r2⟩ := trodAll_cons r1
  obtain ⟨v3, vs3, d3, ds3, p3, q3, rfl, rfl, rfl, h3, r3⟩ := trodAll_cons r2
  obtain ⟨rfl, rfl, rfl⟩ := trodAll_nil r3
  obtain rfl : args = #[v0, v1, v2, v3] := by cases args; simp_all
  obtain ⟨rfl, rfl⟩ := trodVars_none hV
  have k0 := h0
  have lt0 : ∀ x ∈ p0, x.block < W.heap.size := by obtain ⟨m, hm⟩ := k0; exact DataW.trod_lt m _ _ _ hm
  have k1 := h1
  have lt1 : ∀ x ∈ p1, x.block < W.heap.size := by obtain ⟨m, hm⟩ := k1; exact DataW.trod_lt m _ _ _ hm
  have k2 := h2
  have lt2 : ∀ x ∈ p2, x.block < W.heap.size := by obtain ⟨m, hm⟩ := k2; exact DataW.trod_lt m _ _ _ hm
  have k3 := h3
  have lt3 : ∀ x ∈ p3, x.block < W.heap.size := by obtain ⟨m, hm⟩ := k3; exact DataW.trod_lt m _ _ _ hm
  obtain ⟨a0, cap0, l0, rfl, m0, g0⟩ := open_disk (hval 0 24 v0 rfl rfl) h0
  obtain ⟨a1, cap1, l1, rfl, m1, g1⟩ := open_acts (hval 1 39 v1 rfl rfl) h1
  obtain ⟨n2, rfl, _, _, m2⟩ := open_int Try.underlying3 (hval 2 3 v2 rfl rfl) h2
  obtain ⟨a3, cap3, l3, rfl, m3, g3⟩ := open_intS (hval 3 25 v3 rfl rfl) h3
  clear hA0 hval0
  refine (walk a0 cap0 l0 a1 cap1 l1 n2 a3 cap3 l3 W m0 g0 m1 g1 m3 g3).mono fun e W' ⟨he, bel⟩ => ?_
  subst he
  exact ⟨_, rfl, _, _, _, [], _, [], hW', trodAll_mk1 (shut_bool Try.underlying4 _), (trodAll_cons_mk (Below.trod laidOut (by kernel_rfl) (of_decide_eq_true (by kernel_rfl)) k0 bel lt0) (trodAll_cons_mk (Below.trod laidOut (by kernel_rfl) (of_decide_eq_true (by kernel_rfl)) k1 bel lt1) (trodAll_cons_mk (Below.trod laidOut (by kernel_rfl) (of_decide_eq_true (by kernel_rfl)) k2 bel lt2) (trodAll_cons_mk (Below.trod laidOut (by kernel_rfl) (of_decide_eq_true (by kernel_rfl)) k3 bel lt3) trodAll_mk0)))), rfl, bel.frame _, fun h => by cases h⟩

theorem over : Rows.fnExactCutActsRow.holds Try.pinned (OpenSpec.ofChange Rows.fnExactCutActsSpec) :=
  OpenClaim.holds_of_wide 4 Try.f4 rfl rfl rfl rfl rfl rfl rfl ⟨rfl, rfl, rfl, rfl, rfl⟩ rfl rfl rfl rfl rfl (by kernel_rfl) Try.func4 (by kernel_rfl)
    (of_decide_eq_true (by kernel_rfl)) (by unfold Func.isWrapper; first | (rw [if_pos (by decide +kernel)]; kernel_rfl) | (rw [if_neg (by decide +kernel)]; exact ⟨rfl, rfl⟩))
    (fun os started H enc _ => lifted os started H enc)

theorem proved : Rows.FnExactCutActsSaid := over
#print axioms proved
end Go.Proofs.Ytipmbfjcgmchkab.fnExactCutActs
