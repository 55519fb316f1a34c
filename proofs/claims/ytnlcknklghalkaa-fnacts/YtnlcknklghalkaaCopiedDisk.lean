/- A disk that is copied. -/
import Derived.Test.YtnlcknklghalkaaBoxF
namespace Go.Proofs.Ytnlcknklghalkaa
open Go.RowKit
open Plain
set_option linter.unusedVariables false
set_option linter.unusedSimpArgs false

set_option maxHeartbeats 4000000 in
set_option maxRecDepth 100000 in
theorem copiedDisk_any (l : List Fl) (v : Value) (B : Nat) (w : World) (hs : SmallF 1048576 l) (h : OwnF B w v l) :
    Calls Try.prog 19 #[.agg #[v]] w fun e w' => ∃ v', e = .returned (.agg #[v']) ∧ OwnF w.heap.size w' v' l ∧ Below w.heap.size w w' := by
  obtain ⟨a, c, rfl, hcell⟩ := h.shape
  obtain ⟨i0, hi, hz0, hz1, hz2⟩ := info_parts Try.infoFile
  have HC := hide hcell
  have hl0 := hs.1
  have HS := hide hs
  clear h hcell hs
  go_enter Try.func19, Try.ntmps19
  go_wp2
  obtain ⟨W, hW⟩ : ∃ W, W = ((w.alloc (.cells #[.slice a l.length c] 26)).alloc (.cells #[.slice none 0 0] 26)).alloc (.cells #[.slice none 0 0] 26) := ⟨_, rfl⟩
  have hb0 := (((Below.refl w.heap.size w).alloc (Nat.le_refl _) (.cells #[.slice a l.length c] 26)).alloc (by simp) (.cells #[.slice none 0 0] 26)).alloc (by simp; omega) (.cells #[.slice none 0 0] 26)
  rw [← hW] at hb0 ⊢
  have hsz : W.heap.size = w.heap.size + 3 := by rw [hW]; simp
  have hr : W.heap[w.heap.size + 1]? = some (.cells #[.slice none 0 0] 26 (0, 0)) := by rw [hW, Below.heap_alloc _ _ _ (by simp)]; exact heap_alloc2_new _ _ _
  have ho : W.heap[w.heap.size + 2]? = some (.cells #[.slice none 0 0] 26 (0, 0)) := by
    rw [hW]
    have := heap_alloc_new ((w.alloc (.cells #[.slice a l.length c] 26)).alloc (.cells #[.slice none 0 0] 26)) (.cells #[.slice none 0 0] 26)
    simpa using this
  have HO := hide ho
  have HR := hide hr
  clear hW ho hr
  go_loopw [9] (fun i wr => ∃ (k : Nat) (ov : Value), k ≤ l.length ∧ i = .int .i64 k ∧ Box W (w.heap.size + 2) wr ov (l.take k)) (fun i _ => l.length - (intOf i).toNat)
  case atStart => exact ⟨0, _, Nat.zero_le _, rfl, Box.start (unhide HO)⟩
  case round =>
    obtain ⟨k, ov, hk, rfl, hbx⟩ := hrel
    have hwr : w.heap.size + 3 ≤ wr.heap.size := by have := hbx.2.2.size; omega
    by_cases hlt : k < l.length
    · have hgk : l[k]? = some l[k] := List.getElem?_eq_getElem hlt
      obtain ⟨g, rfl, hgl, c0, c1, c2⟩ := unhide HC k l[k] hgk
      rw [← hb0.cell (p := ⟨g, _, none⟩) hgl, ← hbx.old (p := ⟨g, _, none⟩) (by show g < _; omega) (by show g ≠ _; omega)] at c0 c1 c2
      have hik : (0 : Int) ≤ (k : Int) := by omega
      have hil : (k : Int) < (l.length : Int) := by omega
      obtain ⟨hn1, hn2⟩ := (unhide HS).2 l[k] (List.getElem_mem _)
      have htk := List.take_succ_eq_append_getElem hlt
      have hlo : (l.take k).length ≤ 1048576 := by rw [List.length_take]; omega
      generalize l[k] = f at *
      obtain ⟨fn, ft, fk⟩ := f
      simp only at c0 c1 c2 hn1 hn2
      have HTK := hide htk
      have HCP := hide (fun wx => copiedFile_any fn ft fk wx (by omega) (by omega))
      have HNW := hide (show some wr.heap.size ≠ ov.ownBlock from fun e => by have := (World.ownsRow.lt hbx.2.1 wr.heap.size e.symm).2; omega)
      have HBX := hide hbx
      have hbv := hbx.cell
      clear hbx htk hgk
      generalize l.take k = lo at *
      go_wp2
      obtain ⟨W3, hW3⟩ : ∃ W3, W3 = wr.alloc (.cells #[.string fn, .string ft, .int .i64 fk] 55) := ⟨_, rfl⟩
      have s0 : W3.cell? ⟨wr.heap.size, 0, none⟩ = some (.string fn) := by rw [hW3]; go_simp
      have s1 : W3.cell? ⟨wr.heap.size, 1, none⟩ = some (.string ft) := by rw [hW3]; go_simp
      have s2 : W3.cell? ⟨wr.heap.size, 2, none⟩ = some (.int .i64 fk) := by rw [hW3]; go_simp
      have hB3 : Below wr.heap.size wr W3 := by rw [hW3]; exact (Below.refl _ _).alloc (Nat.le_refl _) _
      have hsz3 : W3.heap.size = wr.heap.size + 1 := by rw [hW3]; simp
      have bv3 := cell_on hB3 hbv
      rw [← hW3]
      clear hW3 hbv
      refine lateBegin (S := fun w' => w'.cell? ⟨wr.heap.size, 0, none⟩ = some (.string fn) ∧ w'.cell? ⟨wr.heap.size, 1, none⟩ = some (.string ft) ∧ w'.cell? ⟨wr.heap.size, 2, none⟩ = some (.int .i64 fk) ∧ w'.cell? ⟨w.heap.size + 2, 0, none⟩ = some ov) 7 (by kernel_rfl) (⟨s0, s1, s2, bv3⟩) (fun hHeld => ?_)
      refine lateTake 0 (some 13) ?_ rfl (by kernel_rfl) (by kernel_rfl) (by kernel_rfl) (by kernel_rfl) rfl (fun _ _ _ h => h) (by rfl) (by assumption) ?_ ?_
      rotate_left
      · (intro w hSw; (try dsimp only at hSw); go_simp <;> with_reducible rfl)
      simp only [Act.put, List.setIfInBounds_toArray, List.set_cons_zero, List.set_cons_succ]
      refine lateTake 1 (some 14) ?_ rfl (by kernel_rfl) (by kernel_rfl) (by kernel_rfl) (by kernel_rfl) rfl (fun _ _ _ h => h) (by rfl) (by assumption) ?_ ?_
      rotate_left
      · (intro w hSw; (try dsimp only at hSw); go_simp <;> with_reducible rfl)
      simp only [Act.put, List.setIfInBounds_toArray, List.set_cons_zero, List.set_cons_succ]
      refine lateTake 2 (some 15) ?_ rfl (by kernel_rfl) (by kernel_rfl) (by kernel_rfl) (by kernel_rfl) rfl (fun _ _ _ h => h) (by rfl) (by assumption) ?_ ?_
      rotate_left
      · (intro w hSw; (try dsimp only at hSw); go_simp <;> with_reducible rfl)
      simp only [Act.put, List.setIfInBounds_toArray, List.set_cons_zero, List.set_cons_succ]
      refine lateStep 3 (by kernel_rfl) rfl (by rfl) (fun K hK => ?_)
      go_simp
      refine (unhide HCP W3.drew).mono ?_
      rintro e w4 ⟨rfl, hb4⟩
      go_wp2_with fail
      refine hK.out _ _ (⟨(cell_on (w := W3.drew) hb4 hHeld.1), (cell_on (w := W3.drew) hb4 hHeld.2.1), (cell_on (w := W3.drew) hb4 hHeld.2.2.1), (cell_on (w := W3.drew) hb4 hHeld.2.2.2)⟩) (fun hHeld2 => ?_)
      clear hK K hHeld
      have hHeld := hHeld2; clear hHeld2
      try simp only [Act.put, List.setIfInBounds_toArray, List.set_cons_zero, List.set_cons_succ]
      have hB4 : Below wr.heap.size wr w4 := (hB3.drew).trans (hb4.mono (by show wr.heap.size ≤ W3.heap.size; omega))
      have hw4 : W3.heap.size ≤ w4.heap.size := hb4.size
      refine lateStep 4 (by kernel_rfl) rfl (by rfl) (fun K hK => ?_)
      go_simp
      refine hK.out _ _ (⟨(cell_on ((Below.refl _ _).alloc (Nat.le_refl _) _) hHeld.1), (cell_on ((Below.refl _ _).alloc (Nat.le_refl _) _) hHeld.2.1), (cell_on ((Below.refl _ _).alloc (Nat.le_refl _) _) hHeld.2.2.1), (cell_on ((Below.refl _ _).alloc (Nat.le_refl _) _) hHeld.2.2.2)⟩) (fun hHeld2 => ?_)
      clear hK K hHeld
      have hHeld := hHeld2; clear hHeld2
      try simp only [Act.put, List.setIfInBounds_toArray, List.set_cons_zero, List.set_cons_succ]
      refine lateStep 5 (by kernel_rfl) rfl (by rfl) (fun K hK => ?_)
      refine wp_append_lies _ (.tmp 14) (.tmp 17) 24 rfl W.heap.size 55 i0 _ 3 40 Try.underlying24 hi hz0 hz1 hz2 rfl (by decide) ov lo.length (fcs lo) rfl (World.ownsRow.alloc (own_stays (unhide HBX).2.1 hB4) _) ⟨w4.heap.size, 0, none⟩ 1 1 (fc ⟨fn, ft, fk⟩) rfl rfl (World.news_of_block (cs := #[.string fn, .string ft, .int .i64 fk]) (t := 55) (fr := (0, 0)) (heap_alloc_new w4 _)) (one3F ⟨fn, ft, fk⟩) (by omega) (by unfold maxLen; omega) (by omega) (by simp; omega) (w4.heap.size + 1) (by simp) ?_
      intro gg cap w5 hown5 hgr5 hat5 hlt5
      refine hK.out _ _ (⟨((hgr5.cell_far _ (by simp; omega) (unhide HNW)).trans hHeld.1), ((hgr5.cell_far _ (by simp; omega) (unhide HNW)).trans hHeld.2.1), ((hgr5.cell_far _ (by simp; omega) (unhide HNW)).trans hHeld.2.2.1), ((hgr5.cell_far _ (by simp; omega) ((unhide HBX).ne (by simp; omega))).trans hHeld.2.2.2)⟩) (fun hHeld2 => ?_)
      clear hK K hHeld
      have hHeld := hHeld2; clear hHeld2
      try simp only [Act.put, List.setIfInBounds_toArray, List.set_cons_zero, List.set_cons_succ]
      obtain ⟨HB5, k6, z6⟩ := (unhide HBX).appended (f := ⟨fn, ft, fk⟩) (by omega) hB4 hown5 hgr5
      have HB6 := hide HB5
      clear HB5 hown5 hgr5
      refine lateTake 6 (some 19) ?_ rfl (by kernel_rfl) (by kernel_rfl) (by kernel_rfl) (by kernel_rfl) rfl (fun _ _ _ h => h) (by rfl) (by assumption) ?_ ?_
      rotate_left
      · (intro w hSw; (try dsimp only at hSw); go_simp <;> with_reducible rfl)
      simp only [Act.put, List.setIfInBounds_toArray, List.set_cons_zero, List.set_cons_succ]
      refine lateLast 7 (by decide) (by kernel_rfl) rfl (by rfl) (fun K hK => ?_)
      go_simp
      refine hK.out _ _ ?_
      clear hK K hHeld
      try simp only [Act.put, List.setIfInBounds_toArray, List.set_cons_zero, List.set_cons_succ]
      refine lateDone (by kernel_rfl) ?_ _
      go_wp2
      go_roundw
      case rel => exact ⟨k + 1, _, by omega, by go_num, by rw [unhide HTK]; exact unhide HB6⟩
      case measure => simp [intOf]; omega
    · obtain rfl : k = l.length := by omega
      rw [List.take_length] at hbx
      have hkr := hbx.cell
      have hrr : wr.heap[w.heap.size + 1]? = some (.cells #[.slice none 0 0] 26 (0, 0)) := (hbx.2.2.block _ (by omega) (by intro e; have := Option.some.inj e; omega)).trans (unhide HR)
      have r0 := cell_of_row wr (w.heap.size + 1) 0 _ _ (0, 0) hrr
      have z0 := frozen_of_row wr (w.heap.size + 1) 0 _ _ hrr
      simp only [List.getElem?_toArray, List.getElem?_cons_zero] at r0
      obtain ⟨va, vn, vc, hv'⟩ : ∃ a n c, ov = .slice a n c := by rcases hbx.2.1.2 with ⟨h, _⟩ | ⟨_, _, _, h, _⟩ <;> exact ⟨_, _, _, h⟩
      subst hv'
      have HRR := hide (set1 (.slice va vn vc) hrr)
      have HOE := hide (ownsRow_setCell_below hbx.2.1 (a := ⟨w.heap.size + 1, 0, none⟩) (by show w.heap.size + 1 < _; omega) (.slice va vn vc))
      have HBE := hide ((hbx.below hb0 (by omega) (by omega)).setCell (p := ⟨w.heap.size + 1, 0, none⟩) (by show w.heap.size ≤ w.heap.size + 1; omega) (.slice va vn vc))
      clear hbx hrr
      go_wp2
      refine bodyPost_ret (results_cell_row rfl _ _ (w.heap.size + 1) 26 _ (0, 0) _ rfl (unhide HRR) Try.underlying26 rfl (by kernel_rfl)) rfl ?_
      exact ⟨.slice va vn vc, rfl, own_based (unhide HOE) (by omega), unhide HBE⟩
end Go.Proofs.Ytnlcknklghalkaa
