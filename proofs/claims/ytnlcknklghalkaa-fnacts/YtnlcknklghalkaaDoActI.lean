/- One act on a disk: the program's answer. -/
import Derived.Test.YtnlcknklghalkaaShelfDisk
import Derived.Test.YtnlcknklghalkaaShelfDo
import Derived.Test.YtnlcknklghalkaaShelfOf
import Derived.Test.YtnlcknklghalkaaDiskI
namespace Go.Proofs.Ytnlcknklghalkaa
open Go.RowKit Go.Maps
open Plain
set_option linter.unusedVariables false
set_option linter.unusedSimpArgs false


set_option maxHeartbeats 2000000 in
set_option maxRecDepth 100000 in
theorem impl_DoAct_any (l : List Fl) (a : Ac) (v : Value) (B : Nat) (w : World) (hs : SmallF 1048576 l) (ha : SmallA 1048576 a) (h : OwnF B w v l) :
    Calls Try.prog 9 #[.agg #[v], .agg (ac a)] w fun e w' => ∃ v', e = .returned (.tuple #[.agg #[v'], .bool (doneL l a).isSome]) ∧ OwnF w.heap.size w' v' ((doneL l a).getD []) ∧ Below w.heap.size w w' := by
  obtain ⟨va, c, rfl, hcell⟩ := h.shape
  clear hcell
  have HA := hide (fun (s : List (Fl × Nat)) (b B : Nat) (wx : World) (hS : Shelf B wx b s) (hR : DiskR (files s)) => do_any a s b B wx ha.1 ha.2.1 ha.2.2 hS hR)
  have HAR := hide (fun l' (h1 : diskB l = true) (h2 : actL l a = some l') => actL_right h1 h2)
  have HDN := hide (show doneL l a = if diskB l = true then actL l a else none from rfl)
  generalize doneL l a = res at HDN ⊢
  have HS := hide hs
  have HO := hide h
  clear h hs ha
  obtain ⟨kind, nm, tx, to⟩ := a
  simp only [ac]
  go_enter Try.func9, Try.ntmps9
  go_wp2_with fail
  obtain ⟨W, hW⟩ : ∃ W, W = ((w.alloc (.cells #[.slice va l.length c] 26)).alloc (.cells #[.int .i64 kind, .string nm, .string tx, .string to] 37)).alloc (.cells #[.slice none 0 0] 26) := ⟨_, rfl⟩
  have hb0 := (((Below.refl w.heap.size w).alloc (Nat.le_refl _) (.cells #[.slice va l.length c] 26)).alloc (by simp) (.cells #[.int .i64 kind, .string nm, .string tx, .string to] 37)).alloc (by simp; omega) (.cells #[.slice none 0 0] 26)
  rw [← hW] at hb0 ⊢
  have e0 : W.cell? ⟨w.heap.size, 0, none⟩ = some (.slice va l.length c) := by rw [hW]; go_simp
  have hra : W.heap[w.heap.size + 1]? = some (.cells #[.int .i64 kind, .string nm, .string tx, .string to] 37 (0, 0)) := by rw [hW, Below.heap_alloc _ _ _ (by simp)]; exact heap_alloc2_new _ _ _
  have hr : W.heap[w.heap.size + 2]? = some (.cells #[.slice none 0 0] 26 (0, 0)) := by
    rw [hW]
    have := heap_alloc_new ((w.alloc (.cells #[.slice va l.length c] 26)).alloc (.cells #[.int .i64 kind, .string nm, .string tx, .string to] 37)) (.cells #[.slice none 0 0] 26)
    simpa using this
  have hsz : W.heap.size = w.heap.size + 3 := by rw [hW]; simp
  clear hW
  refine (impl_DiskOk_any l _ B W (unhide HS) (own_stays (unhide HO) hb0)).mono ?_
  rintro e w1 ⟨rfl, hb1⟩
  have HO1 := hide (own_stays (own_stays (unhide HO) hb0) hb1)
  have e1 := cell_on hb1 e0
  have HRA := hide (row_on hb1 hra (by omega))
  have HR := hide (row_on hb1 hr (by omega))
  have BB := hide (hb0.trans (hb1.mono (by omega)))
  have hsz1 : w.heap.size + 3 ≤ w1.heap.size := by have := hb1.size; omega
  clear hb0 hb1 hra hr e0
  cases hd : diskB l
  · obtain rfl : res = none := by rw [unhide HDN, hd]; rfl
    have r0 := cell_of_row w1 (w.heap.size + 2) 0 _ _ (0, 0) (unhide HR)
    have z0 := frozen_of_row w1 (w.heap.size + 2) 0 _ _ (unhide HR)
    simp only [List.getElem?_toArray, List.getElem?_cons_zero] at r0
    have HRR := hide (set1 (.slice none 0 0) (unhide HR))
    clear hd
    go_wp2
    refine bodyPost_ret (by rw [results_cell_tmp rfl]; simp [asAddr, run_loadVar_row _ _ _ _ _ _ _ (unhide HRR) Try.underlying26 rfl (by kernel_rfl)]; rfl) rfl ?_
    exact ⟨.slice none 0 0, rfl, World.ownsRow_nil _ _ _ _, (unhide BB).setCell (by simp; omega) _⟩
  · have HD := hide (diskB_iff.1 hd)
    have hres : res = actL l ⟨kind, nm, tx, to⟩ := by rw [unhide HDN, hd]; rfl
    have HRES := hide hres
    have HDB := hide hd
    clear hd hres
    go_wp2_with fail
    refine (shelfOf_any l _ B w1 (unhide HD) (unhide HO1)).mono ?_
    rintro e w2 ⟨b, s, rfl, hfs, hS2, hb2⟩
    have hra2 := row_on hb2 (unhide HRA) (by omega)
    have a0 := cell_of_row w2 (w.heap.size + 1) 0 _ _ (0, 0) hra2
    have a1 := cell_of_row w2 (w.heap.size + 1) 1 _ _ (0, 0) hra2
    have a2 := cell_of_row w2 (w.heap.size + 1) 2 _ _ (0, 0) hra2
    have a3 := cell_of_row w2 (w.heap.size + 1) 3 _ _ (0, 0) hra2
    simp only [List.getElem?_toArray, List.getElem?_cons_zero, List.getElem?_cons_succ] at a0 a1 a2 a3
    replace HR := hide (row_on hb2 (unhide HR) (by omega))
    replace BB := hide ((unhide BB).trans (hb2.mono (by omega)))
    have hsz2 : w1.heap.size ≤ w2.heap.size := hb2.size
    have HS2 := hide hS2
    have HFS := hide hfs
    clear hra2 hS2 hfs hb2
    go_wp2_with fail
    refine (unhide HA s b w1.heap.size w2 (unhide HS2) (by rw [unhide HFS]; exact unhide HD)).mono ?_
    rintro e w3 ⟨rfl, s', hS3, hfs3, hb3⟩
    have hR3 := row_on hb3 (unhide HR) (by omega)
    have HB3 := hide ((unhide BB).trans (hb3.mono (by omega)))
    have hsz3 : w2.heap.size ≤ w3.heap.size := hb3.size
    have HR3 := hide hR3
    rw [unhide HFS, ← unhide HRES] at hfs3 ⊢
    have HS3 := hide hS3
    have HF3 := hide hfs3
    clear hR3 hb3 hS3 hfs3 a0 a1 a2 a3
    cases hres : res with
    | none =>
      have r0 := cell_of_row w3 (w.heap.size + 2) 0 _ _ (0, 0) (unhide HR3)
      have z0 := frozen_of_row w3 (w.heap.size + 2) 0 _ _ (unhide HR3)
      simp only [List.getElem?_toArray, List.getElem?_cons_zero] at r0
      have HRR := hide (set1 (.slice none 0 0) (unhide HR3))
      subst hres
      go_wp2
      refine bodyPost_ret (by rw [results_cell_tmp rfl]; simp [asAddr, run_loadVar_row _ _ _ _ _ _ _ (unhide HRR) Try.underlying26 rfl (by kernel_rfl)]; rfl) rfl ?_
      exact ⟨.slice none 0 0, rfl, World.ownsRow_nil _ _ _ _, (unhide HB3).setCell (by simp; omega) _⟩
    | some l' =>
      subst hres
      have hl' : files s' = l' := unhide HF3
      have hd' : DiskR (files s') := by rw [hl']; exact diskB_iff.1 (unhide HAR l' (unhide HDB) (unhide HRES).symm)
      have HD' := hide hd'
      have HL' := hide hl'
      clear hd' hl'
      go_wp2_with fail
      refine (sdisk_any s' b _ w3 (unhide HS3) (unhide HD')).mono ?_
      rintro e w4 ⟨v4, rfl, hown4, hb4⟩
      have hR4 := row_on hb4 (unhide HR3) (by omega)
      have r0 := cell_of_row w4 (w.heap.size + 2) 0 _ _ (0, 0) hR4
      have z0 := frozen_of_row w4 (w.heap.size + 2) 0 _ _ hR4
      simp only [List.getElem?_toArray, List.getElem?_cons_zero] at r0
      obtain ⟨xa, xn, xc, hv'⟩ : ∃ a n c, v4 = .slice a n c := by unfold OwnF at hown4; rcases hown4.2 with ⟨h, _⟩ | ⟨_, _, _, h, _⟩ <;> exact ⟨_, _, _, h⟩
      subst hv'
      have HRR := hide (set1 (.slice xa xn xc) hR4)
      have HOE := hide (ownsRow_setCell_below hown4 (a := ⟨w.heap.size + 2, 0, none⟩) (by show w.heap.size + 2 < _; omega) (.slice xa xn xc))
      have HB4 := hide (((unhide HB3).trans (hb4.mono (by omega))).setCell (p := ⟨w.heap.size + 2, 0, none⟩) (by show w.heap.size ≤ w.heap.size + 2; omega) (.slice xa xn xc))
      clear hR4 hown4 hb4
      go_wp2
      refine bodyPost_ret (by rw [results_cell_tmp rfl]; simp [asAddr, run_loadVar_row _ _ _ _ _ _ _ (unhide HRR) Try.underlying26 rfl (by kernel_rfl)]; rfl) rfl ?_
      refine ⟨.slice xa xn xc, rfl, ?_, unhide HB4⟩
      show OwnF _ _ _ l'
      rw [← unhide HL']
      exact own_based (unhide HOE) (by omega)
end Go.Proofs.Ytnlcknklghalkaa
