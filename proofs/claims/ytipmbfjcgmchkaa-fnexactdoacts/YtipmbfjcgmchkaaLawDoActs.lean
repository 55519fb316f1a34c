/-
  FnExactDoActs: at every disk and every list of acts the program's DoActs answers as the specification's, every field, writes into no argument, and its answer owns its memory: the law returns true, and the arguments read as they did; no condition (what is of over 2^20 values and bytes is passed by the law itself).
-/
import Derived.Test.YtipmbfjcgmchkaaRows
import Derived.Test.YtipmbfjcgmchkaaDoActsS
import Derived.Test.YtipmbfjcgmchkaaActMarks
import Derived.Test.YtipmbfjcgmchkaaLedger2
import Derived.WalkKit
import Derived.ProofKit
import Derived.OpenShut
import Derived.ShutString
import Derived.ChangeOld
import Derived.Below
import Derived.Carry
namespace Go.Proofs.Ytipmbfjcgmchkaa.fnExactDoActs
open Go.ChangeShapes Go.WideShapes Go.ChangeAt Go.RowKit
open Go.ChangeMaps (open_string shut_string)
open Plain
set_option linter.unusedVariables false

theorem own : ownKnob Try.prog.godebug = none := by kernel_rfl
theorem laidOut : laidOutB Try.prog = true := by kernel_rfl

set_option maxHeartbeats 8000000 in
set_option maxRecDepth 100000 in
theorem walk (a0 : Option Addr) (cap0 : Nat) (l0 : List Fl) (a1 : Option Addr) (cap1 : Nat) (l1 : List Ac) (w : World) (m0 : l0.length ≤ maxLen) (h0 : ArgF w.heap.size w a0 l0) (m1 : l1.length ≤ maxLen) (h1 : ArgA w.heap.size w a1 l1) :
    Calls Try.prog 8 #[.agg #[.slice a0 l0.length cap0], .slice a1 l1.length cap1] w fun e w' => e = .returned (.bool true) ∧ Below w.heap.size w w' := by
  have HA := hide h0
  have HX := hide h1
  clear h0 h1
  go_enter Try.func8, Try.ntmps8
  go_wp2_with fail
  have hb0 := (Below.refl w.heap.size w).alloc (Nat.le_refl _) (.cells #[.slice a0 l0.length cap0] 51)
  have e0 : (w.alloc (.cells #[.slice a0 l0.length cap0] 51)).heap[w.heap.size]? = some (.cells #[.slice a0 l0.length cap0] 51 (0, 0)) := heap_alloc_new _ _
  have hsz : (w.alloc (.cells #[.slice a0 l0.length cap0] 51)).heap.size = w.heap.size + 1 := by simp
  generalize w.alloc (.cells #[.slice a0 l0.length cap0] 51) = W at *
  refine (szDisk_any a0 l0.length cap0 l0 W rfl m0 ((unhide HA).up hb0)).mono ?_
  rintro e w1 ⟨⟨m, rfl, hmm⟩, hb1⟩
  have E0 := hide (row_up e0 hb1)
  have BB := hide (hb0.trans (hb1.mono (by omega)))
  have y_w1 : w.heap.size < w1.heap.size := by have := hb1.size; omega
  clear e0 hb0 hb1
  rcases hmm with rfl | ⟨q, rfl, hq, hsm⟩
  · go_wp2
    go_ret
    exact ⟨rfl, unhide BB⟩
  have HS := hide hsm
  have hs0 := hsm.1
  clear hsm
  go_wp2_with fail
  refine (szActS_any a1 cap1 l1 q w1 hq m1 ((unhide HX).up (unhide BB))).mono ?_
  rintro e w2 ⟨⟨m2, rfl, hmm2⟩, hb2⟩
  replace E0 := hide (row_up (w := w1) (unhide E0) hb2)
  have z_w2 : w1.heap.size ≤ w2.heap.size := hb2.size
  replace BB := hide ((unhide BB).trans (hb2.mono (by show w.heap.size ≤ w1.heap.size; omega)))
  clear hb2
  have y_w2 : w.heap.size < w2.heap.size := by omega
  rcases hmm2 with rfl | ⟨q2, rfl, hq2, hsa⟩
  · go_wp2
    go_ret
    exact ⟨rfl, unhide BB⟩
  have HSA := hide hsa
  have hs1 := hsa.1
  clear hsa
  have CS := hide (fun v u B wx h hu => spec_DoActs_any l0 l1 v u B wx (unhide HS) (unhide HSA) h hu)
  have CI := hide (fun v u B wx h hu => impl_DoActs_any l0 l1 v u B wx (unhide HS) (unhide HSA) h hu)
  have hal : (runActs l0 l1).1.length ≤ 1048576 := by
    rcases runActs_small (l := l0) l1 with h | h
    · rw [h]; exact hs0
    · have := (diskB_iff.1 h).1; omega
  generalize (runActs l0 l1).1 = ans at CS CI hal
  generalize ((runActs l0 l1).2 : Int) = d at CS CI
  clear HSA
  have q_E0 := row_cell (unhide E0)
  go_wp2_with fail
  clear q_E0
  refine (toDisk_any a0 cap0 l0 w2 hs0 ((unhide HA).up (unhide BB))).mono ?_
  rintro e w3 ⟨v3, rfl, own3, hb3⟩
  replace E0 := hide (row_up (w := w2) (unhide E0) hb3)
  have z_w3 : w2.heap.size ≤ w3.heap.size := hb3.size
  replace BB := hide ((unhide BB).trans (hb3.mono (by show w.heap.size ≤ w2.heap.size; omega)))
  clear hb3
  have y_w3 : w.heap.size < w3.heap.size := by omega
  have O3 := hide own3
  have RO3 := hide (World.ownsRow.lt (unhide O3))
  clear own3
  go_wp2_with fail
  refine (toActS_any a1 cap1 l1 w3 hs1 ((unhide HX).up (unhide BB))).mono ?_
  rintro e w4 ⟨v4, rfl, own4, hb4⟩
  replace E0 := hide (row_up (w := w3) (unhide E0) hb4)
  replace O3 := hide (own_stays (w := w3) (unhide O3) hb4)
  have z_w4 : w3.heap.size ≤ w4.heap.size := hb4.size
  replace BB := hide ((unhide BB).trans (hb4.mono (by show w.heap.size ≤ w3.heap.size; omega)))
  clear hb4
  have y_w4 : w.heap.size < w4.heap.size := by omega
  have O4 := hide own4
  have RO4 := hide (World.ownsRow.lt (unhide O4))
  clear own4
  go_wp2_with fail
  refine (unhide CS v3 v4 _ w4 (unhide O3) (OwnA.read (unhide O4))).mono ?_
  rintro e w5 ⟨v5, rfl, own5, hb5⟩
  replace E0 := hide (row_up (w := w4) (unhide E0) hb5)
  replace O3 := hide (own_stays (w := w4) (unhide O3) hb5)
  replace O4 := hide (own_stays (w := w4) (unhide O4) hb5)
  have z_w5 : w4.heap.size ≤ w5.heap.size := hb5.size
  replace BB := hide ((unhide BB).trans (hb5.mono (by show w.heap.size ≤ w4.heap.size; omega)))
  clear hb5
  have y_w5 : w.heap.size < w5.heap.size := by omega
  clear O3 O4
  have O5 := hide own5
  have RO5 := hide (World.ownsRow.lt (unhide O5))
  clear own5
  obtain ⟨xa5, xn5, xc5, hv5⟩ := own_shape (unhide O5)
  subst hv5
  have q_E0 := row_cell (unhide E0)
  have qa_E0 := fun o => cell_on ((Below.refl w5.heap.size w5).alloc (Nat.le_refl _) o) q_E0
  go_wp2_with fail
  clear q_E0 qa_E0
  have hx : (w5.alloc (.cells #[.slice xa5 xn5 xc5] 26)).heap[w5.heap.size]? = some (.cells #[.slice xa5 xn5 xc5] 26 (0, 0)) := heap_alloc_new _ _
  have hbx := (Below.refl w5.heap.size w5).alloc (Nat.le_refl _) (.cells #[.slice xa5 xn5 xc5] 26)
  have hzx : (w5.alloc (.cells #[.slice xa5 xn5 xc5] 26)).heap.size = w5.heap.size + 1 := by simp
  obtain ⟨w6, hWx⟩ : ∃ W, W = w5.alloc (.cells #[.slice xa5 xn5 xc5] 26) := ⟨_, rfl⟩
  rw [← hWx] at hx hbx hzx ⊢
  clear hWx
  replace E0 := hide (row_up (w := w5) (unhide E0) hbx)
  replace O5 := hide (own_stays (w := w5) (unhide O5) hbx)
  have z_w6 : w5.heap.size ≤ w6.heap.size := hbx.size
  replace BB := hide ((unhide BB).trans (hbx.mono (by show w.heap.size ≤ w5.heap.size; omega)))
  clear hbx
  have y_w6 : w.heap.size < w6.heap.size := by omega
  have zz_w6 : w5.heap.size < w6.heap.size := by omega
  clear hzx
  have X5 := hide hx
  clear hx
  refine (toDisk_any a0 cap0 l0 w6 hs0 ((unhide HA).up (unhide BB))).mono ?_
  rintro e w7 ⟨v7, rfl, own7, hb7⟩
  replace E0 := hide (row_up (w := w6) (unhide E0) hb7)
  replace X5 := hide (row_up (w := w6) (unhide X5) hb7)
  replace O5 := hide (own_stays (w := w6) (unhide O5) hb7)
  have z_w7 : w6.heap.size ≤ w7.heap.size := hb7.size
  replace BB := hide ((unhide BB).trans (hb7.mono (by show w.heap.size ≤ w6.heap.size; omega)))
  clear hb7
  have y_w7 : w.heap.size < w7.heap.size := by omega
  have O7 := hide own7
  have RO7 := hide (World.ownsRow.lt (unhide O7))
  clear own7
  obtain ⟨xa7, xn7, xc7, hv7⟩ := own_shape (unhide O7)
  subst hv7
  go_wp2_with fail
  have hx : (w7.alloc (.cells #[.slice xa7 xn7 xc7] 26)).heap[w7.heap.size]? = some (.cells #[.slice xa7 xn7 xc7] 26 (0, 0)) := heap_alloc_new _ _
  have hbx := (Below.refl w7.heap.size w7).alloc (Nat.le_refl _) (.cells #[.slice xa7 xn7 xc7] 26)
  have hzx : (w7.alloc (.cells #[.slice xa7 xn7 xc7] 26)).heap.size = w7.heap.size + 1 := by simp
  obtain ⟨w8, hWx⟩ : ∃ W, W = w7.alloc (.cells #[.slice xa7 xn7 xc7] 26) := ⟨_, rfl⟩
  rw [← hWx] at hx hbx hzx ⊢
  clear hWx
  replace E0 := hide (row_up (w := w7) (unhide E0) hbx)
  replace X5 := hide (row_up (w := w7) (unhide X5) hbx)
  replace O5 := hide (own_stays (w := w7) (unhide O5) hbx)
  replace O7 := hide (own_stays (w := w7) (unhide O7) hbx)
  have z_w8 : w7.heap.size ≤ w8.heap.size := hbx.size
  replace BB := hide ((unhide BB).trans (hbx.mono (by show w.heap.size ≤ w7.heap.size; omega)))
  clear hbx
  have y_w8 : w.heap.size < w8.heap.size := by omega
  have zz_w8 : w7.heap.size < w8.heap.size := by omega
  clear hzx
  have X7 := hide hx
  clear hx
  refine (toActS_any a1 cap1 l1 w8 hs1 ((unhide HX).up (unhide BB))).mono ?_
  rintro e w9 ⟨v9, rfl, own9, hb9⟩
  replace E0 := hide (row_up (w := w8) (unhide E0) hb9)
  replace X5 := hide (row_up (w := w8) (unhide X5) hb9)
  replace X7 := hide (row_up (w := w8) (unhide X7) hb9)
  replace O5 := hide (own_stays (w := w8) (unhide O5) hb9)
  replace O7 := hide (own_stays (w := w8) (unhide O7) hb9)
  have z_w9 : w8.heap.size ≤ w9.heap.size := hb9.size
  replace BB := hide ((unhide BB).trans (hb9.mono (by show w.heap.size ≤ w8.heap.size; omega)))
  clear hb9
  have y_w9 : w.heap.size < w9.heap.size := by omega
  have O9 := hide own9
  have RO9 := hide (World.ownsRow.lt (unhide O9))
  clear own9
  have q_X7 := row_cell (unhide X7)
  go_wp2_with fail
  clear q_X7
  refine (unhide CI _ v9 _ w9 (unhide O7) (OwnA.read (unhide O9))).mono ?_
  rintro e w10 ⟨v10, rfl, own10, hb10⟩
  replace E0 := hide (row_up (w := w9) (unhide E0) hb10)
  replace X5 := hide (row_up (w := w9) (unhide X5) hb10)
  replace X7 := hide (row_up (w := w9) (unhide X7) hb10)
  replace O5 := hide (own_stays (w := w9) (unhide O5) hb10)
  replace O7 := hide (own_stays (w := w9) (unhide O7) hb10)
  replace O9 := hide (own_stays (w := w9) (unhide O9) hb10)
  have z_w10 : w9.heap.size ≤ w10.heap.size := hb10.size
  replace BB := hide ((unhide BB).trans (hb10.mono (by show w.heap.size ≤ w9.heap.size; omega)))
  clear hb10
  have y_w10 : w.heap.size < w10.heap.size := by omega
  have O10 := hide own10
  have RO10 := hide (World.ownsRow.lt (unhide O10))
  clear own10
  obtain ⟨xa10, xn10, xc10, hv10⟩ := own_shape (unhide O10)
  subst hv10
  have q_X5 := row_cell (unhide X5)
  have qa_X5 := fun o => cell_on ((Below.refl w10.heap.size w10).alloc (Nat.le_refl _) o) q_X5
  go_wp2_with fail
  clear q_X5 qa_X5
  have hx : (w10.alloc (.cells #[.slice xa10 xn10 xc10] 26)).heap[w10.heap.size]? = some (.cells #[.slice xa10 xn10 xc10] 26 (0, 0)) := heap_alloc_new _ _
  have hbx := (Below.refl w10.heap.size w10).alloc (Nat.le_refl _) (.cells #[.slice xa10 xn10 xc10] 26)
  have hzx : (w10.alloc (.cells #[.slice xa10 xn10 xc10] 26)).heap.size = w10.heap.size + 1 := by simp
  obtain ⟨w11, hWx⟩ : ∃ W, W = w10.alloc (.cells #[.slice xa10 xn10 xc10] 26) := ⟨_, rfl⟩
  rw [← hWx] at hx hbx hzx ⊢
  clear hWx
  replace E0 := hide (row_up (w := w10) (unhide E0) hbx)
  replace X5 := hide (row_up (w := w10) (unhide X5) hbx)
  replace X7 := hide (row_up (w := w10) (unhide X7) hbx)
  replace O5 := hide (own_stays (w := w10) (unhide O5) hbx)
  replace O7 := hide (own_stays (w := w10) (unhide O7) hbx)
  replace O9 := hide (own_stays (w := w10) (unhide O9) hbx)
  replace O10 := hide (own_stays (w := w10) (unhide O10) hbx)
  have z_w11 : w10.heap.size ≤ w11.heap.size := hbx.size
  replace BB := hide ((unhide BB).trans (hbx.mono (by show w.heap.size ≤ w10.heap.size; omega)))
  clear hbx
  have y_w11 : w.heap.size < w11.heap.size := by omega
  have zz_w11 : w10.heap.size < w11.heap.size := by omega
  clear hzx
  have X10 := hide hx
  clear hx
  refine (eqDisk_same ans _ _ _ _ w11 hal (unhide O10) (unhide O5)).mono ?_
  rintro e w12 ⟨rfl, hb12⟩
  replace E0 := hide (row_up (w := w11) (unhide E0) hb12)
  replace X5 := hide (row_up (w := w11) (unhide X5) hb12)
  replace X7 := hide (row_up (w := w11) (unhide X7) hb12)
  replace X10 := hide (row_up (w := w11) (unhide X10) hb12)
  replace O5 := hide (own_stays (w := w11) (unhide O5) hb12)
  replace O7 := hide (own_stays (w := w11) (unhide O7) hb12)
  replace O9 := hide (own_stays (w := w11) (unhide O9) hb12)
  replace O10 := hide (own_stays (w := w11) (unhide O10) hb12)
  have z_w12 : w11.heap.size ≤ w12.heap.size := hb12.size
  replace BB := hide ((unhide BB).trans (hb12.mono (by show w.heap.size ≤ w11.heap.size; omega)))
  clear hb12
  have y_w12 : w.heap.size < w12.heap.size := by omega
  go_wp2
  have s8 := row_cell (unhide X7)
  have sE := row_cell (unhide E0)
  refine wp_region_held_drew (S := fun w' => w'.cell? ⟨w7.heap.size, 0, none⟩ = some (.slice xa7 xn7 xc7) ∧ w'.cell? ⟨w.heap.size, 0, none⟩ = some (.slice a0 l0.length cap0)) (by kernel_rfl) (⟨s8, sE⟩) (fun hHeld => ?_)
  refine takeVal 0 (some 54) ?_ rfl (by kernel_rfl) (by kernel_rfl) (by kernel_rfl) rfl (fun _ _ _ h => h) (by rfl) (by assumption) ?_ ?_
  rotate_left
  · (intro w hSw; (try dsimp only at hSw); go_simp <;> with_reducible rfl)
  simp only [Act.put, List.setIfInBounds_toArray, List.set_cons_zero, List.set_cons_succ]
  refine takeVal 1 (some 55) ?_ rfl (by kernel_rfl) (by kernel_rfl) (by kernel_rfl) rfl (fun _ _ _ h => h) (by rfl) (by assumption) ?_ ?_
  rotate_left
  · (intro w hSw; (try dsimp only at hSw); go_simp <;> with_reducible rfl)
  simp only [Act.put, List.setIfInBounds_toArray, List.set_cons_zero, List.set_cons_succ]
  refine wpAnyH_ready (rs := [2]) (by kernel_rfl) (by simp) ?_
  refine AllReadyH.cons rfl (fun K hK => ?_) AllReadyH.nil
  go_simp
  refine (toDisk_any a0 cap0 l0 w12.drew hs0 ((unhide HA).up (unhide BB).drew)).mono ?_
  rintro e w13 ⟨v13, rfl, own13, hb13⟩
  go_wp2_with fail
  refine hK.out _ _ (⟨cell_on (w := w12.drew) hb13 s8, cell_on (w := w12.drew) hb13 sE⟩) (fun hHeld2 => ?_)
  clear hK K hHeld
  have hHeld := hHeld2; clear hHeld2
  try simp only [Act.put, List.setIfInBounds_toArray, List.set_cons_zero, List.set_cons_succ]
  refine wpAnyH_ready (rs := [3]) (by kernel_rfl) (by simp) ?_
  refine AllReadyH.cons rfl (fun K hK => ?_) AllReadyH.nil
  go_simp
  refine (eqDisk_same l0 _ v13 _ _ w13 hs0 (own_stays (w := w12.drew) (unhide O7) hb13) own13).mono ?_
  rintro e w14 ⟨rfl, hb14⟩
  go_wp2_with fail
  refine hK.out _ _ (⟨cell_on hb14 hHeld.1, cell_on hb14 hHeld.2⟩) (fun hHeld2 => ?_)
  clear hK K hHeld
  have hHeld := hHeld2; clear hHeld2
  try simp only [Act.put, List.setIfInBounds_toArray, List.set_cons_zero, List.set_cons_succ]
  refine takeVal 4 (some 58) ?_ rfl (by kernel_rfl) (by kernel_rfl) (by kernel_rfl) rfl (fun _ _ _ h => h) (by rfl) (by assumption) ?_ ?_
  rotate_left
  · (intro w hSw; (try dsimp only at hSw); go_simp <;> with_reducible rfl)
  simp only [Act.put, List.setIfInBounds_toArray, List.set_cons_zero, List.set_cons_succ]
  refine wpAnyH_done (by kernel_rfl) ?_ _
  clear own13 s8 sE hHeld
  replace E0 := hide (row_up (w := w12.drew) (unhide E0) hb13)
  replace X5 := hide (row_up (w := w12.drew) (unhide X5) hb13)
  replace X7 := hide (row_up (w := w12.drew) (unhide X7) hb13)
  replace X10 := hide (row_up (w := w12.drew) (unhide X10) hb13)
  replace O5 := hide (own_stays (w := w12.drew) (unhide O5) hb13)
  replace O7 := hide (own_stays (w := w12.drew) (unhide O7) hb13)
  replace O9 := hide (own_stays (w := w12.drew) (unhide O9) hb13)
  replace O10 := hide (own_stays (w := w12.drew) (unhide O10) hb13)
  have z_w13 : w12.heap.size ≤ w13.heap.size := hb13.size
  replace BB := hide ((unhide BB).drew.trans (hb13.mono (by show w.heap.size ≤ w12.heap.size; omega)))
  clear hb13
  have y_w13 : w.heap.size < w13.heap.size := by omega
  replace E0 := hide (row_up (w := w13) (unhide E0) hb14)
  replace X5 := hide (row_up (w := w13) (unhide X5) hb14)
  replace X7 := hide (row_up (w := w13) (unhide X7) hb14)
  replace X10 := hide (row_up (w := w13) (unhide X10) hb14)
  replace O5 := hide (own_stays (w := w13) (unhide O5) hb14)
  replace O7 := hide (own_stays (w := w13) (unhide O7) hb14)
  replace O9 := hide (own_stays (w := w13) (unhide O9) hb14)
  replace O10 := hide (own_stays (w := w13) (unhide O10) hb14)
  have z_w14 : w13.heap.size ≤ w14.heap.size := hb14.size
  replace BB := hide ((unhide BB).trans (hb14.mono (by show w.heap.size ≤ w13.heap.size; omega)))
  clear hb14
  have y_w14 : w.heap.size < w14.heap.size := by omega
  go_wp2_with fail
  refine (toActS_any a1 cap1 l1 w14 hs1 ((unhide HX).up (unhide BB))).mono ?_
  rintro e w15 ⟨v15, rfl, own15, hb15⟩
  replace E0 := hide (row_up (w := w14) (unhide E0) hb15)
  replace X5 := hide (row_up (w := w14) (unhide X5) hb15)
  replace X7 := hide (row_up (w := w14) (unhide X7) hb15)
  replace X10 := hide (row_up (w := w14) (unhide X10) hb15)
  replace O5 := hide (own_stays (w := w14) (unhide O5) hb15)
  replace O7 := hide (own_stays (w := w14) (unhide O7) hb15)
  replace O9 := hide (own_stays (w := w14) (unhide O9) hb15)
  replace O10 := hide (own_stays (w := w14) (unhide O10) hb15)
  have z_w15 : w14.heap.size ≤ w15.heap.size := hb15.size
  replace BB := hide ((unhide BB).trans (hb15.mono (by show w.heap.size ≤ w14.heap.size; omega)))
  clear hb15
  have y_w15 : w.heap.size < w15.heap.size := by omega
  have O15 := hide own15
  have RO15 := hide (World.ownsRow.lt (unhide O15))
  clear own15
  go_wp2_with fail
  refine (eqActS_same l1 v9 v15 _ _ w15 hs1 (unhide O9) (unhide O15)).mono ?_
  rintro e w16 ⟨rfl, hb16⟩
  clear O15
  replace E0 := hide (row_up (w := w15) (unhide E0) hb16)
  replace X5 := hide (row_up (w := w15) (unhide X5) hb16)
  replace X7 := hide (row_up (w := w15) (unhide X7) hb16)
  replace X10 := hide (row_up (w := w15) (unhide X10) hb16)
  replace O5 := hide (own_stays (w := w15) (unhide O5) hb16)
  replace O7 := hide (own_stays (w := w15) (unhide O7) hb16)
  replace O9 := hide (own_stays (w := w15) (unhide O9) hb16)
  replace O10 := hide (own_stays (w := w15) (unhide O10) hb16)
  have z_w16 : w15.heap.size ≤ w16.heap.size := hb16.size
  replace BB := hide ((unhide BB).trans (hb16.mono (by show w.heap.size ≤ w15.heap.size; omega)))
  clear hb16
  have y_w16 : w.heap.size < w16.heap.size := by omega
  have q_X7 := row_cell (unhide X7)
  go_wp2_with fail
  clear q_X7
  refine (markDisk_any l0 _ _ 1 w16 hs0 (by omega) (by omega) (unhide O7)).mono ?_
  rintro e w17 ⟨rfl, own17, hg17⟩
  clear own17
  replace E0 := hide (row_aside (unhide E0) (unhide O7) (by decide) hg17)
  replace X5 := hide (row_aside (unhide X5) (unhide O7) (by decide) hg17)
  replace X7 := hide (row_aside (unhide X7) (unhide O7) (by decide) hg17)
  replace X10 := hide (row_aside (unhide X10) (unhide O7) (by decide) hg17)
  replace O5 := hide (own_aside (unhide O5) hg17 (unhide RO5) (unhide RO7) (by omega))
  replace O9 := hide (own_aside (unhide O9) hg17 (unhide RO9) (unhide RO7) (by omega))
  replace O10 := hide (own_aside (unhide O10) hg17 (unhide RO10) (unhide RO7) (by omega))
  have z_w17 : w16.heap.size ≤ w17.heap.size := hg17.size
  replace BB := hide (below_aside (unhide BB) hg17 (unhide RO7) (by omega) (by omega))
  clear hg17
  have y_w17 : w.heap.size < w17.heap.size := by omega
  clear X7
  obtain ⟨K, hK⟩ : ∃ K, K = 1 + l0.length * 3 := ⟨_, rfl⟩
  rw [← hK]
  have hKb : 1 ≤ K ∧ K ≤ 4000000 := by omega
  clear hK
  go_wp2_with fail
  refine (markActS_any l1 v9 _ K w17 hs1 hKb.1 (by omega) (unhide O9)).mono ?_
  rintro e w18 ⟨rfl, hg18⟩
  replace E0 := hide (row_aside (unhide E0) (unhide O9) (by decide) hg18)
  replace X5 := hide (row_aside (unhide X5) (unhide O9) (by decide) hg18)
  replace X10 := hide (row_aside (unhide X10) (unhide O9) (by decide) hg18)
  replace O5 := hide (own_aside (unhide O5) hg18 (unhide RO5) (unhide RO9) (by omega))
  replace O10 := hide (own_aside (unhide O10) hg18 (unhide RO10) (unhide RO9) (by omega))
  have z_w18 : w17.heap.size ≤ w18.heap.size := hg18.size
  replace BB := hide (below_aside (unhide BB) hg18 (unhide RO9) (by omega) (by omega))
  clear hg18
  have y_w18 : w.heap.size < w18.heap.size := by omega
  generalize K + l1.length * 4 = K2
  have q_X10 := row_cell (unhide X10)
  have q_X5 := row_cell (unhide X5)
  go_wp2_with fail
  clear q_X10 q_X5
  refine (eqDisk_same ans _ _ _ _ w18 hal (unhide O10) (unhide O5)).mono ?_
  rintro e w19 ⟨rfl, hb19⟩
  replace E0 := hide (row_up (w := w18) (unhide E0) hb19)
  replace X5 := hide (row_up (w := w18) (unhide X5) hb19)
  replace X10 := hide (row_up (w := w18) (unhide X10) hb19)
  replace O5 := hide (own_stays (w := w18) (unhide O5) hb19)
  replace O10 := hide (own_stays (w := w18) (unhide O10) hb19)
  have z_w19 : w18.heap.size ≤ w19.heap.size := hb19.size
  replace BB := hide ((unhide BB).trans (hb19.mono (by show w.heap.size ≤ w18.heap.size; omega)))
  clear hb19
  have y_w19 : w.heap.size < w19.heap.size := by omega
  have q_X10 := row_cell (unhide X10)
  go_wp2_with fail
  clear q_X10
  refine (markDisk_any ans _ _ 1 w19 hal (by omega) (by omega) (unhide O10)).mono ?_
  rintro e w20 ⟨rfl, own20, hg20⟩
  replace E0 := hide (row_aside (unhide E0) (unhide O10) (by decide) hg20)
  replace X5 := hide (row_aside (unhide X5) (unhide O10) (by decide) hg20)
  replace X10 := hide (row_aside (unhide X10) (unhide O10) (by decide) hg20)
  replace O5 := hide (own_aside (unhide O5) hg20 (unhide RO5) (unhide RO10) (by omega))
  have z_w20 : w19.heap.size ≤ w20.heap.size := hg20.size
  replace BB := hide (below_aside (unhide BB) hg20 (unhide RO10) (by omega) (by omega))
  clear hg20
  have y_w20 : w.heap.size < w20.heap.size := by omega
  have O20 := hide own20
  clear own20
  have CH := hide (fun v B wx h => heldDisk_any ans.length v B 1 wx hal (by omega) (by omega) h)
  obtain ⟨K3, hK3⟩ : ∃ K, K = 1 + ans.length * 3 := ⟨_, rfl⟩
  rw [← hK3] at CH ⊢
  clear hK3
  have q_X10 := row_cell (unhide X10)
  go_wp2_with fail
  clear q_X10
  refine (unhide CH _ _ w20 (unhide O20)).mono ?_
  rintro e w21 ⟨rfl, hb21⟩
  replace E0 := hide (row_up (w := w20) (unhide E0) hb21)
  replace X5 := hide (row_up (w := w20) (unhide X5) hb21)
  replace X10 := hide (row_up (w := w20) (unhide X10) hb21)
  replace O5 := hide (own_stays (w := w20) (unhide O5) hb21)
  replace O20 := hide (own_stays (w := w20) (unhide O20) hb21)
  have z_w21 : w20.heap.size ≤ w21.heap.size := hb21.size
  replace BB := hide ((unhide BB).trans (hb21.mono (by show w.heap.size ≤ w20.heap.size; omega)))
  clear hb21
  have y_w21 : w.heap.size < w21.heap.size := by omega
  have q_E0 := row_cell (unhide E0)
  go_wp2_with fail
  clear q_E0
  refine (toDisk_any a0 cap0 l0 w21 hs0 ((unhide HA).up (unhide BB))).mono ?_
  rintro e w22 ⟨v22, rfl, own22, hb22⟩
  replace E0 := hide (row_up (w := w21) (unhide E0) hb22)
  replace X5 := hide (row_up (w := w21) (unhide X5) hb22)
  replace X10 := hide (row_up (w := w21) (unhide X10) hb22)
  replace O5 := hide (own_stays (w := w21) (unhide O5) hb22)
  replace O20 := hide (own_stays (w := w21) (unhide O20) hb22)
  have z_w22 : w21.heap.size ≤ w22.heap.size := hb22.size
  replace BB := hide ((unhide BB).trans (hb22.mono (by show w.heap.size ≤ w21.heap.size; omega)))
  clear hb22
  have y_w22 : w.heap.size < w22.heap.size := by omega
  have O22 := hide own22
  have RO22 := hide (World.ownsRow.lt (unhide O22))
  clear own22
  go_wp2_with fail
  refine (toActS_any a1 cap1 l1 w22 hs1 ((unhide HX).up (unhide BB))).mono ?_
  rintro e w23 ⟨v23, rfl, own23, hb23⟩
  replace E0 := hide (row_up (w := w22) (unhide E0) hb23)
  replace X5 := hide (row_up (w := w22) (unhide X5) hb23)
  replace X10 := hide (row_up (w := w22) (unhide X10) hb23)
  replace O5 := hide (own_stays (w := w22) (unhide O5) hb23)
  replace O20 := hide (own_stays (w := w22) (unhide O20) hb23)
  replace O22 := hide (own_stays (w := w22) (unhide O22) hb23)
  have z_w23 : w22.heap.size ≤ w23.heap.size := hb23.size
  replace BB := hide ((unhide BB).trans (hb23.mono (by show w.heap.size ≤ w22.heap.size; omega)))
  clear hb23
  have y_w23 : w.heap.size < w23.heap.size := by omega
  have O23 := hide own23
  have RO23 := hide (World.ownsRow.lt (unhide O23))
  clear own23
  go_wp2_with fail
  refine (unhide CI v22 v23 _ w23 (unhide O22) (OwnA.read (unhide O23))).mono ?_
  rintro e w24 ⟨v24, rfl, own24, hb24⟩
  replace E0 := hide (row_up (w := w23) (unhide E0) hb24)
  replace X5 := hide (row_up (w := w23) (unhide X5) hb24)
  replace X10 := hide (row_up (w := w23) (unhide X10) hb24)
  replace O5 := hide (own_stays (w := w23) (unhide O5) hb24)
  replace O20 := hide (own_stays (w := w23) (unhide O20) hb24)
  replace O22 := hide (own_stays (w := w23) (unhide O22) hb24)
  replace O23 := hide (own_stays (w := w23) (unhide O23) hb24)
  have z_w24 : w23.heap.size ≤ w24.heap.size := hb24.size
  replace BB := hide ((unhide BB).trans (hb24.mono (by show w.heap.size ≤ w23.heap.size; omega)))
  clear hb24
  have y_w24 : w.heap.size < w24.heap.size := by omega
  clear O22 O23
  have O24 := hide own24
  have RO24 := hide (World.ownsRow.lt (unhide O24))
  clear own24
  obtain ⟨xa24, xn24, xc24, hv24⟩ := own_shape (unhide O24)
  subst hv24
  have q_X5 := row_cell (unhide X5)
  have qa_X5 := fun o => cell_on ((Below.refl w24.heap.size w24).alloc (Nat.le_refl _) o) q_X5
  go_wp2_with fail
  clear q_X5 qa_X5
  have hx : (w24.alloc (.cells #[.slice xa24 xn24 xc24] 26)).heap[w24.heap.size]? = some (.cells #[.slice xa24 xn24 xc24] 26 (0, 0)) := heap_alloc_new _ _
  have hbx := (Below.refl w24.heap.size w24).alloc (Nat.le_refl _) (.cells #[.slice xa24 xn24 xc24] 26)
  have hzx : (w24.alloc (.cells #[.slice xa24 xn24 xc24] 26)).heap.size = w24.heap.size + 1 := by simp
  obtain ⟨w25, hWx⟩ : ∃ W, W = w24.alloc (.cells #[.slice xa24 xn24 xc24] 26) := ⟨_, rfl⟩
  rw [← hWx] at hx hbx hzx ⊢
  clear hWx
  replace E0 := hide (row_up (w := w24) (unhide E0) hbx)
  replace X5 := hide (row_up (w := w24) (unhide X5) hbx)
  replace X10 := hide (row_up (w := w24) (unhide X10) hbx)
  replace O5 := hide (own_stays (w := w24) (unhide O5) hbx)
  replace O20 := hide (own_stays (w := w24) (unhide O20) hbx)
  replace O24 := hide (own_stays (w := w24) (unhide O24) hbx)
  have z_w25 : w24.heap.size ≤ w25.heap.size := hbx.size
  replace BB := hide ((unhide BB).trans (hbx.mono (by show w.heap.size ≤ w24.heap.size; omega)))
  clear hbx
  have y_w25 : w.heap.size < w25.heap.size := by omega
  have zz_w25 : w24.heap.size < w25.heap.size := by omega
  clear hzx
  have X24 := hide hx
  clear hx
  refine (eqDisk_same ans _ _ _ _ w25 hal (unhide O24) (unhide O5)).mono ?_
  rintro e w26 ⟨rfl, hb26⟩
  clear X24 O24
  replace E0 := hide (row_up (w := w25) (unhide E0) hb26)
  replace X5 := hide (row_up (w := w25) (unhide X5) hb26)
  replace X10 := hide (row_up (w := w25) (unhide X10) hb26)
  replace O5 := hide (own_stays (w := w25) (unhide O5) hb26)
  replace O20 := hide (own_stays (w := w25) (unhide O20) hb26)
  have z_w26 : w25.heap.size ≤ w26.heap.size := hb26.size
  replace BB := hide ((unhide BB).trans (hb26.mono (by show w.heap.size ≤ w25.heap.size; omega)))
  clear hb26
  have y_w26 : w.heap.size < w26.heap.size := by omega
  have q_X10 := row_cell (unhide X10)
  go_wp2_with fail
  clear q_X10
  refine (unhide CH _ _ w26 (unhide O20)).mono ?_
  rintro e w27 ⟨rfl, hb27⟩
  replace E0 := hide (row_up (w := w26) (unhide E0) hb27)
  replace X5 := hide (row_up (w := w26) (unhide X5) hb27)
  replace X10 := hide (row_up (w := w26) (unhide X10) hb27)
  replace O5 := hide (own_stays (w := w26) (unhide O5) hb27)
  replace O20 := hide (own_stays (w := w26) (unhide O20) hb27)
  have z_w27 : w26.heap.size ≤ w27.heap.size := hb27.size
  replace BB := hide ((unhide BB).trans (hb27.mono (by show w.heap.size ≤ w26.heap.size; omega)))
  clear hb27
  have y_w27 : w.heap.size < w27.heap.size := by omega
  go_wp2
  go_ret
  exact ⟨rfl, unhide BB⟩

set_option maxRecDepth 100000 in
theorem lifted (os : Os) (started : os.Started) (H : Type) (enc : TypeId × Value → H) :
    ReturnsInHanded {} Try.checked os 8 .any (Rows.fnExactDoActsSpec.pre6 enc Try.prog Try.f8 Rows.fnExactDoActsRow.domain false) (Rows.fnExactDoActsSpec.post enc Try.prog Try.f8 false true false false) := by
  refine returnsInHanded_of_change (C := Try.checked) own started (by kernel_rfl) Try.func8
    (ChangeSpec.witness6 (enc := enc) (C := Try.checked) false ⟨#[], #[.agg #[.slice none 0 0], .slice none 0 0], []⟩ 8 (by kernel_rfl) (by kernel_rfl) (by kernel_rfl) (by kernel_rfl)) ?_
  intro W base args ds gs before hval0 hW hcnd _
  have hval : ∀ (j : Nat) t v, Try.f8.params[j]? = some t → args[j]? = some v → Value.okWide Try.prog W .any base t v := hval0
  have hW' := hW
  obtain ⟨p, q, hA0, hV, rfl, hfz, hnd⟩ := hW
  have hA : DataW.TrodAll enc Try.prog W 0 (fun _ => true) true Try.f8.params.toList args.toList ds p := hA0
  rw [Try.params8] at hA hval
  obtain ⟨v0, vs0, d0, ds0, p0, q0, hargs, rfl, rfl, h0, r0⟩ := trodAll_cons hA
  obtain ⟨v1, vs1, d1, ds1, p1, q1, rfl, rfl, rfl, h1, r1⟩ := trodAll_cons r0
  obtain ⟨rfl, rfl, rfl⟩ := trodAll_nil r1
  obtain rfl : args = #[v0, v1] := by cases args; simp_all
  obtain ⟨rfl, rfl⟩ := trodVars_none hV
  have k0 := h0
  have lt0 : ∀ x ∈ p0, x.block < W.heap.size := by obtain ⟨m, hm⟩ := k0; exact DataW.trod_lt m _ _ _ hm
  have k1 := h1
  have lt1 : ∀ x ∈ p1, x.block < W.heap.size := by obtain ⟨m, hm⟩ := k1; exact DataW.trod_lt m _ _ _ hm
  obtain ⟨a0, cap0, l0, rfl, m0, g0⟩ := open_disk (hval 0 51 v0 rfl rfl) h0
  obtain ⟨a1, cap1, l1, rfl, m1, g1⟩ := open_acts (hval 1 61 v1 rfl rfl) h1
  clear hA0 hval0
  refine (walk a0 cap0 l0 a1 cap1 l1 W m0 g0 m1 g1).mono fun e W' ⟨he, bel⟩ => ?_
  subst he
  exact ⟨_, rfl, _, _, _, [], _, [], hW', trodAll_mk1 (shut_bool Try.underlying4 _), (trodAll_cons_mk (Below.trod laidOut (by kernel_rfl) (of_decide_eq_true (by kernel_rfl)) k0 bel lt0) (trodAll_cons_mk (Below.trod laidOut (by kernel_rfl) (of_decide_eq_true (by kernel_rfl)) k1 bel lt1) trodAll_mk0)), rfl, bel.frame _, fun h => by cases h⟩

theorem over : Rows.fnExactDoActsRow.holds Try.pinned (OpenSpec.ofChange Rows.fnExactDoActsSpec) :=
  OpenClaim.holds_of_wide 8 Try.f8 rfl rfl rfl rfl rfl rfl rfl ⟨rfl, rfl, rfl, rfl, rfl⟩ rfl rfl rfl rfl rfl (by kernel_rfl) Try.func8 (by kernel_rfl)
    (of_decide_eq_true (by kernel_rfl)) (by unfold Func.isWrapper; first | (rw [if_pos (by decide +kernel)]; kernel_rfl) | (rw [if_neg (by decide +kernel)]; exact ⟨rfl, rfl⟩))
    (fun os started H enc _ => lifted os started H enc)

theorem proved : Rows.FnExactDoActsSaid := over
#print axioms proved
end Go.Proofs.Ytipmbfjcgmchkaa.fnExactDoActs
