/- A file that is copied. -/
import Derived.Test.YtnlcknklghalkaaAt
import Derived.Test.YtnlcknklghalkaaRegion
namespace Go.Proofs.Ytnlcknklghalkaa
open Go.RowKit
open Plain
set_option linter.unusedVariables false

theorem set3 {w : World} {c : Nat} {x y z : Value} {t : TypeId} (a b d : Value) (H : w.heap[c]? = some (.cells #[x, y, z] t (0, 0))) :
    (((w.setCell ⟨c, 0, none⟩ a).setCell ⟨c, 1, none⟩ b).setCell ⟨c, 2, none⟩ d).heap[c]? = some (.cells #[a, b, d] t (0, 0)) := by
  have h1 := heap_setCell_same w c 0 #[x, y, z] t a H
  have h2 := heap_setCell_same _ c 1 _ t b h1
  have h3 := heap_setCell_same _ c 2 _ t d h2
  exact h3
theorem set1 {w : World} {c : Nat} {x : Value} {t : TypeId} (a : Value) (H : w.heap[c]? = some (.cells #[x] t (0, 0))) :
    (w.setCell ⟨c, 0, none⟩ a).heap[c]? = some (.cells #[a] t (0, 0)) := heap_setCell_same w c 0 #[x] t a H

set_option maxHeartbeats 1000000 in
set_option maxRecDepth 100000 in
theorem copiedFile_any (n t : ByteArray) (k : Int) (w : World) (hn : n.size ≤ 2097152) (ht : t.size ≤ 2097152) :
    Calls Try.prog 39 #[.agg #[.string n, .string t, .int .i64 k]] w fun e w' =>
      e = .returned (.agg #[.string n, .string t, .int .i64 k]) ∧ Below w.heap.size w w' := by
  have HN := hide (fun wx => Clone_any n wx (by omega))
  have HT := hide (fun wx => Clone_any t wx (by omega))
  clear hn ht
  go_enter Try.func39, Try.ntmps39
  go_wp2
  have hb0 := ((Below.refl w.heap.size w).alloc (Nat.le_refl _) (.cells #[.string n, .string t, .int .i64 k] 55)).alloc (by simp) (.cells #[.string ⟨#[]⟩, .string ⟨#[]⟩, .int .i64 0] 55)
  have e0 : ((w.alloc (.cells #[.string n, .string t, .int .i64 k] 55)).alloc (.cells #[.string ⟨#[]⟩, .string ⟨#[]⟩, .int .i64 0] 55)).cell? ⟨w.heap.size, 0, none⟩ = some (.string n) := by go_simp
  have e1 : ((w.alloc (.cells #[.string n, .string t, .int .i64 k] 55)).alloc (.cells #[.string ⟨#[]⟩, .string ⟨#[]⟩, .int .i64 0] 55)).cell? ⟨w.heap.size, 1, none⟩ = some (.string t) := by go_simp
  have e2 : ((w.alloc (.cells #[.string n, .string t, .int .i64 k] 55)).alloc (.cells #[.string ⟨#[]⟩, .string ⟨#[]⟩, .int .i64 0] 55)).cell? ⟨w.heap.size, 2, none⟩ = some (.int .i64 k) := by go_simp
  have hr : ((w.alloc (.cells #[.string n, .string t, .int .i64 k] 55)).alloc (.cells #[.string ⟨#[]⟩, .string ⟨#[]⟩, .int .i64 0] 55)).heap[w.heap.size + 1]? = some (.cells #[.string ⟨#[]⟩, .string ⟨#[]⟩, .int .i64 0] 55 (0, 0)) := heap_alloc2_new _ _ _
  have hsz : ((w.alloc (.cells #[.string n, .string t, .int .i64 k] 55)).alloc (.cells #[.string ⟨#[]⟩, .string ⟨#[]⟩, .int .i64 0] 55)).heap.size = w.heap.size + 2 := by simp
  obtain ⟨W, hW⟩ : ∃ W, W = ((w.alloc (.cells #[.string n, .string t, .int .i64 k] 55)).alloc (.cells #[.string ⟨#[]⟩, .string ⟨#[]⟩, .int .i64 0] 55)) := ⟨_, rfl⟩
  rw [← hW] at hb0 e0 e1 e2 hr hsz ⊢
  clear hW
  have E0 := hide e0; have E1 := hide e1; have E2 := hide e2; have HR := hide hr; have B0 := hide hb0
  have keepf : Hid (∀ w1 w2 : World, Below w1.heap.size w1 w2 → w.heap.size < w1.heap.size → (w1.cell? ⟨w.heap.size, 0, none⟩ = some (.string n) ∧ w1.cell? ⟨w.heap.size, 1, none⟩ = some (.string t) ∧ w1.cell? ⟨w.heap.size, 2, none⟩ = some (.int .i64 k)) → w2.cell? ⟨w.heap.size, 0, none⟩ = some (.string n) ∧ w2.cell? ⟨w.heap.size, 1, none⟩ = some (.string t) ∧ w2.cell? ⟨w.heap.size, 2, none⟩ = some (.int .i64 k)) := by
    intro w1 w2 hb hl hc
    rw [hb.cell (p := ⟨w.heap.size, 0, none⟩) hl, hb.cell (p := ⟨w.heap.size, 1, none⟩) hl, hb.cell (p := ⟨w.heap.size, 2, none⟩) hl]
    exact hc
  clear hr hb0
  refine wp_region_held_drew (S := fun w' => w'.cell? ⟨w.heap.size, 0, none⟩ = some (.string n) ∧ w'.cell? ⟨w.heap.size, 1, none⟩ = some (.string t) ∧ w'.cell? ⟨w.heap.size, 2, none⟩ = some (.int .i64 k)) (by kernel_rfl) (⟨e0, e1, e2⟩) (fun hHeld => ?_)
  refine takeVal 0 (some 3) ?_ rfl (by kernel_rfl) (by kernel_rfl) (by kernel_rfl) rfl (fun _ _ _ h => h) (by rfl) (by assumption) ?_ ?_
  rotate_left
  · (intro w hSw; (try dsimp only at hSw); go_simp <;> with_reducible rfl)
  simp only [Act.put, List.setIfInBounds_toArray, List.set_cons_zero, List.set_cons_succ]
  refine takeVal 1 (some 4) ?_ rfl (by kernel_rfl) (by kernel_rfl) (by kernel_rfl) rfl (fun _ _ _ h => h) (by rfl) (by assumption) ?_ ?_
  rotate_left
  · (intro w hSw; (try dsimp only at hSw); go_simp <;> with_reducible rfl)
  simp only [Act.put, List.setIfInBounds_toArray, List.set_cons_zero, List.set_cons_succ]
  refine takeVal 3 (some 6) ?_ rfl (by kernel_rfl) (by kernel_rfl) (by kernel_rfl) rfl (fun _ _ _ h => h) (by rfl) (by assumption) ?_ ?_
  rotate_left
  · (intro w hSw; (try dsimp only at hSw); go_simp <;> with_reducible rfl)
  simp only [Act.put, List.setIfInBounds_toArray, List.set_cons_zero, List.set_cons_succ]
  refine takeVal 4 (some 7) ?_ rfl (by kernel_rfl) (by kernel_rfl) (by kernel_rfl) rfl (fun _ _ _ h => h) (by rfl) (by assumption) ?_ ?_
  rotate_left
  · (intro w hSw; (try dsimp only at hSw); go_simp <;> with_reducible rfl)
  simp only [Act.put, List.setIfInBounds_toArray, List.set_cons_zero, List.set_cons_succ]
  refine takeVal 6 (some 9) ?_ rfl (by kernel_rfl) (by kernel_rfl) (by kernel_rfl) rfl (fun _ _ _ h => h) (by rfl) (by assumption) ?_ ?_
  rotate_left
  · (intro w hSw; (try dsimp only at hSw); go_simp <;> with_reducible rfl)
  simp only [Act.put, List.setIfInBounds_toArray, List.set_cons_zero, List.set_cons_succ]
  refine takeVal 7 (some 10) ?_ rfl (by kernel_rfl) (by kernel_rfl) (by kernel_rfl) rfl (fun _ _ _ h => h) (by rfl) (by assumption) ?_ ?_
  rotate_left
  · (intro w hSw; (try dsimp only at hSw); go_simp <;> with_reducible rfl)
  simp only [Act.put, List.setIfInBounds_toArray, List.set_cons_zero, List.set_cons_succ]
  refine wpAnyH_ready (rs := [2]) (by kernel_rfl) (by simp) ?_
  refine AllReadyH.cons rfl (fun K hK => ?_) AllReadyH.nil
  go_simp
  refine (unhide HN W.drew).mono ?_
  rintro e w1 ⟨rfl, hb1⟩
  go_wp2_with fail
  refine hK.out _ _ (unhide keepf _ _ hb1 (by show w.heap.size < W.heap.size; omega) ⟨unhide E0, unhide E1, unhide E2⟩) (fun hHeld2 => ?_)
  clear hK K hHeld
  have hHeld := hHeld2; clear hHeld2
  try simp only [Act.put, List.setIfInBounds_toArray, List.set_cons_zero, List.set_cons_succ]
  refine wpAnyH_ready (rs := [5]) (by kernel_rfl) (by simp) ?_
  refine AllReadyH.cons rfl (fun K hK => ?_) AllReadyH.nil
  go_simp
  refine (unhide HT w1).mono ?_
  rintro e w2 ⟨rfl, hb2⟩
  go_wp2_with fail
  refine hK.out _ _ (unhide keepf _ _ hb2 (by have : W.heap.size ≤ w1.heap.size := hb1.size; omega) hHeld) (fun hHeld2 => ?_)
  clear hK K hHeld
  have hHeld := hHeld2; clear hHeld2
  try simp only [Act.put, List.setIfInBounds_toArray, List.set_cons_zero, List.set_cons_succ]
  refine takeVal 8 (some 11) ?_ rfl (by kernel_rfl) (by kernel_rfl) (by kernel_rfl) rfl (fun _ _ _ h => h) (by rfl) (by assumption) ?_ ?_
  rotate_left
  · (intro w hSw; (try dsimp only at hSw); go_simp <;> with_reducible rfl)
  simp only [Act.put, List.setIfInBounds_toArray, List.set_cons_zero, List.set_cons_succ]
  have hr2 : w2.heap[w.heap.size + 1]? = some (.cells #[.string ⟨#[]⟩, .string ⟨#[]⟩, .int .i64 0] 55 (0, 0)) := (hb2.block _ (by have : W.heap.size ≤ w1.heap.size := hb1.size; omega)).trans ((hb1.block _ (by show w.heap.size + 1 < W.heap.size; omega)).trans (unhide HR))
  have r0 := cell_of_row w2 (w.heap.size + 1) 0 _ _ (0, 0) hr2
  have r1 := cell_of_row w2 (w.heap.size + 1) 1 _ _ (0, 0) hr2
  have r2 := cell_of_row w2 (w.heap.size + 1) 2 _ _ (0, 0) hr2
  have z0 := frozen_of_row w2 (w.heap.size + 1) 0 _ _ hr2
  have z1 := frozen_of_row w2 (w.heap.size + 1) 1 _ _ hr2
  have z2 := frozen_of_row w2 (w.heap.size + 1) 2 _ _ hr2
  simp only [List.getElem?_toArray, List.getElem?_cons_zero, List.getElem?_cons_succ] at r0 r1 r2
  have HR2 := hide (set3 (.string n) (.string t) (.int .i64 k) hr2)
  clear hr2
  refine wpAnyH_ready (rs := [9]) (by kernel_rfl) (by simp) ?_
  refine AllReadyH.cons rfl (fun K hK => ?_) AllReadyH.nil
  go_simp
  refine hK.out _ _ (by refine ⟨?_, ?_, ?_⟩ <;> (rw [World.cell?_setCell_other _ _ _ _ (by simp), World.cell?_setCell_other _ _ _ _ (by simp), World.cell?_setCell_other _ _ _ _ (by simp)]; first | exact hHeld.1 | exact hHeld.2.1 | exact hHeld.2.2)) (fun hHeld2 => ?_)
  clear hK K hHeld
  have hHeld := hHeld2; clear hHeld2
  try simp only [Act.put, List.setIfInBounds_toArray, List.set_cons_zero, List.set_cons_succ]
  refine wpAnyH_done (by kernel_rfl) ?_ _
  go_wp2
  refine bodyPost_ret (results_cell_row rfl _ _ (w.heap.size + 1) 55 _ (0, 0) _ rfl (unhide HR2) Try.underlying55 rfl (by kernel_rfl)) rfl ?_
  refine ⟨rfl, ?_⟩
  have hB := below2 (unhide B0).drew (below2 hb1 hb2)
  exact ((hB.setCell (by simp) _).setCell (by simp) _).setCell (by simp) _
end Go.Proofs.Ytnlcknklghalkaa
