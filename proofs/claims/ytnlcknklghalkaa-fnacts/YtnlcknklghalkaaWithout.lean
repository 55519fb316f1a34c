/- A disk without the file of a name: the specification's. -/
import Derived.Test.YtnlcknklghalkaaBoxF
import Derived.Test.YtnlcknklghalkaaActPlain
namespace Go.Proofs.Ytnlcknklghalkaa
open Go.RowKit
open Plain
set_option linter.unusedVariables false
set_option linter.unusedSimpArgs false

theorem withoutL_hit {l : List Fl} {n : ByteArray} {k : Nat} {f : Fl} (hf : l[k]? = some f) (h : (f.name.toList == n.toList) = true) : withoutL (l.take (k + 1)) n = withoutL (l.take k) n := by
  obtain ⟨hk, rfl⟩ := List.getElem?_eq_some_iff.1 hf
  rw [List.take_succ_eq_append_getElem hk]
  unfold withoutL
  rw [List.filter_append, List.filter_cons_of_neg (by rw [h]; simp), List.filter_nil, List.append_nil]
theorem withoutL_miss {l : List Fl} {n : ByteArray} {k : Nat} {f : Fl} (hf : l[k]? = some f) (h : (f.name.toList == n.toList) = false) : withoutL (l.take (k + 1)) n = withoutL (l.take k) n ++ [f] := by
  obtain ⟨hk, rfl⟩ := List.getElem?_eq_some_iff.1 hf
  rw [List.take_succ_eq_append_getElem hk]
  unfold withoutL
  rw [List.filter_append, List.filter_cons_of_pos (by rw [h]; rfl), List.filter_nil]

set_option maxHeartbeats 4000000 in
set_option maxRecDepth 100000 in
theorem l03Without_any (l : List Fl) (n : ByteArray) (v : Value) (B : Nat) (w : World) (hs : l.length ≤ 1048576) (h : OwnF B w v l) :
    Calls Try.prog 47 #[.agg #[v], .string n] w fun e w' => ∃ v', e = .returned (.agg #[v']) ∧ OwnF w.heap.size w' v' (withoutL l n) ∧ Below w.heap.size w w' := by
  obtain ⟨a, c, rfl, hcell⟩ := h.shape
  obtain ⟨i0, hi, hz0, hz1, hz2⟩ := info_parts Try.infoFile
  have HC := hide hcell
  clear h hcell
  go_enter Try.func47, Try.ntmps47
  go_wp2
  obtain ⟨W, hW⟩ : ∃ W, W = ((w.alloc (.cells #[.slice a l.length c] 26)).alloc (.cells #[.slice none 0 0] 26)).alloc (.cells #[.slice none 0 0] 26) := ⟨_, rfl⟩
  have hb0 := (((Below.refl w.heap.size w).alloc (Nat.le_refl _) (.cells #[.slice a l.length c] 26)).alloc (by simp) (.cells #[.slice none 0 0] 26)).alloc (by simp; omega) (.cells #[.slice none 0 0] 26)
  rw [← hW] at hb0 ⊢
  have e0 : W.cell? ⟨w.heap.size, 0, none⟩ = some (.slice a l.length c) := by rw [hW]; go_simp
  have hsz : W.heap.size = w.heap.size + 3 := by rw [hW]; simp
  have hr : W.heap[w.heap.size + 1]? = some (.cells #[.slice none 0 0] 26 (0, 0)) := by rw [hW, Below.heap_alloc _ _ _ (by simp)]; exact heap_alloc2_new _ _ _
  have ho : W.heap[w.heap.size + 2]? = some (.cells #[.slice none 0 0] 26 (0, 0)) := by
    rw [hW]
    have := heap_alloc_new ((w.alloc (.cells #[.slice a l.length c] 26)).alloc (.cells #[.slice none 0 0] 26)) (.cells #[.slice none 0 0] 26)
    simpa using this
  have HO := hide ho
  have HR := hide hr
  clear hW ho hr
  go_loopw [6] (fun i wr => ∃ (k : Nat) (ov : Value), k ≤ l.length ∧ i = .int .i64 k ∧ Box W (w.heap.size + 2) wr ov (withoutL (l.take k) n)) (fun i _ => l.length - (intOf i).toNat)
  case atStart => exact ⟨0, _, Nat.zero_le _, rfl, Box.start (unhide HO)⟩
  case round =>
    obtain ⟨k, ov, hk, rfl, hbx⟩ := hrel
    have hwr : w.heap.size + 3 ≤ wr.heap.size := by have := hbx.2.2.size; omega
    have e1 := (hbx.old (p := ⟨w.heap.size, 0, none⟩) (by show w.heap.size < _; omega) (by show w.heap.size ≠ _; omega)).trans e0
    by_cases hlt : k < l.length
    · have hgk : l[k]? = some l[k] := List.getElem?_eq_getElem hlt
      obtain ⟨g, rfl, hgl, c0, c1, c2⟩ := unhide HC k l[k] hgk
      rw [← hb0.cell (p := ⟨g, _, none⟩) hgl, ← hbx.old (p := ⟨g, _, none⟩) (by show g < _; omega) (by show g ≠ _; omega)] at c0 c1 c2
      have hik : (0 : Int) ≤ (k : Int) := by omega
      have hil : (k : Int) < (l.length : Int) := by omega
      cases heq : (l[k].name.toList == n.toList)
      · have hm := withoutL_miss hgk heq
        generalize l[k] = f at *
        have HM := hide hm
        have hlen : (withoutL (l.take k) n).length ≤ k := by
          have := List.length_filter_le (fun g : Fl => !(g.name.toList == n.toList)) (l.take k)
          rw [List.length_take] at this
          unfold withoutL; omega
        generalize withoutL (l.take k) n = lo at *
        have HBX := hide hbx
        have bv1 := hbx.cell
        clear hm hbx
        go_wp2
        refine lateBegin (S := fun w' => w'.cell? ⟨w.heap.size, 0, none⟩ = some (.slice (some ⟨g, 0, none⟩) l.length c) ∧ w'.cell? ⟨g, k * 3, none⟩ = some (.string f.name) ∧ w'.cell? ⟨g, k * 3 + 1, none⟩ = some (.string f.text) ∧ w'.cell? ⟨g, k * 3 + 2, none⟩ = some (.int .i64 f.kept) ∧ w'.cell? ⟨w.heap.size + 2, 0, none⟩ = some ov) 10 (by kernel_rfl) (⟨e1, c0, c1, c2, bv1⟩) (fun hHeld => ?_)
        refine lateTake 0 (some 23) ?_ rfl (by kernel_rfl) (by kernel_rfl) (by kernel_rfl) (by kernel_rfl) rfl (fun _ _ _ h => h) (by rfl) (by assumption) ?_ ?_
        rotate_left
        · (intro w hSw; (try dsimp only at hSw); go_simp <;> with_reducible rfl)
        simp only [Act.put, List.setIfInBounds_toArray, List.set_cons_zero, List.set_cons_succ]
        refine lateTake 1 (some 24) ?_ rfl (by kernel_rfl) (by kernel_rfl) (by kernel_rfl) (by kernel_rfl) rfl (fun _ _ _ h => h) (by rfl) (by assumption) ?_ ?_
        rotate_left
        · (intro w hSw; (try dsimp only at hSw); go_simp <;> with_reducible rfl)
        simp only [Act.put, List.setIfInBounds_toArray, List.set_cons_zero, List.set_cons_succ]
        refine lateTake 2 (some 25) ?_ rfl (by kernel_rfl) (by kernel_rfl) (by kernel_rfl) (by kernel_rfl) rfl (fun _ _ _ h => h) (by rfl) (by assumption) ?_ ?_
        rotate_left
        · (intro w hSw; (try dsimp only at hSw); go_simp <;> with_reducible rfl)
        simp only [Act.put, List.setIfInBounds_toArray, List.set_cons_zero, List.set_cons_succ]
        refine lateTake 3 (some 26) ?_ rfl (by kernel_rfl) (by kernel_rfl) (by kernel_rfl) (by kernel_rfl) rfl (fun _ _ _ h => h) (by rfl) (by assumption) ?_ ?_
        rotate_left
        · (intro w hSw; (try dsimp only at hSw); go_simp <;> with_reducible rfl)
        simp only [Act.put, List.setIfInBounds_toArray, List.set_cons_zero, List.set_cons_succ]
        refine lateTake 4 (some 27) ?_ rfl (by kernel_rfl) (by kernel_rfl) (by kernel_rfl) (by kernel_rfl) rfl (fun _ _ _ h => h) (by rfl) (by assumption) ?_ ?_
        rotate_left
        · (intro w hSw; (try dsimp only at hSw); go_simp <;> with_reducible rfl)
        simp only [Act.put, List.setIfInBounds_toArray, List.set_cons_zero, List.set_cons_succ]
        refine lateTake 5 (some 28) ?_ rfl (by kernel_rfl) (by kernel_rfl) (by kernel_rfl) (by kernel_rfl) rfl (fun _ _ _ h => h) (by rfl) (by assumption) ?_ ?_
        rotate_left
        · (intro w hSw; (try dsimp only at hSw); go_simp <;> with_reducible rfl)
        simp only [Act.put, List.setIfInBounds_toArray, List.set_cons_zero, List.set_cons_succ]
        refine lateTake 6 (some 29) ?_ rfl (by kernel_rfl) (by kernel_rfl) (by kernel_rfl) (by kernel_rfl) rfl (fun _ _ _ h => h) (by rfl) (by assumption) ?_ ?_
        rotate_left
        · (intro w hSw; (try dsimp only at hSw); go_simp <;> with_reducible rfl)
        simp only [Act.put, List.setIfInBounds_toArray, List.set_cons_zero, List.set_cons_succ]
        refine lateStep 7 (by kernel_rfl) rfl (by rfl) (fun K hK => ?_)
        go_simp
        refine hK.out _ _ (⟨(cell_on ((Below.refl _ _).alloc (Nat.le_refl _) _) hHeld.1), (cell_on ((Below.refl _ _).alloc (Nat.le_refl _) _) hHeld.2.1), (cell_on ((Below.refl _ _).alloc (Nat.le_refl _) _) hHeld.2.2.1), (cell_on ((Below.refl _ _).alloc (Nat.le_refl _) _) hHeld.2.2.2.1), (cell_on ((Below.refl _ _).alloc (Nat.le_refl _) _) hHeld.2.2.2.2)⟩) (fun hHeld2 => ?_)
        clear hK K hHeld
        have hHeld := hHeld2; clear hHeld2
        try simp only [Act.put, List.setIfInBounds_toArray, List.set_cons_zero, List.set_cons_succ]
        refine lateStep 8 (by kernel_rfl) rfl (by rfl) (fun K hK => ?_)
        refine wp_append_lies _ (.tmp 24) (.tmp 30) 24 rfl W.heap.size 55 i0 _ 3 40 Try.underlying24 hi hz0 hz1 hz2 rfl (by decide) ov lo.length (fcs lo) rfl ((World.ownsRow.alloc (unhide HBX).2.1 _).drew) ⟨wr.heap.size, 0, none⟩ 1 1 (fc f) rfl rfl (World.news_of_block (cs := #[.string f.name, .string f.text, .int .i64 f.kept]) (t := 55) (fr := (0, 0)) (heap_alloc_new wr _)) (one3F f) (by omega) (by unfold maxLen; omega) (by omega) (by simp; omega) (wr.heap.size + 1) (by simp) ?_
        intro gg cap w5 hown5 hgr5 hat5 hlt5
        refine hK.out _ _ (⟨((hgr5.cell_far _ (by simp; omega) ((unhide HBX).ne (by simp; omega))).trans hHeld.1), ((hgr5.cell_far _ (by simp; omega) ((unhide HBX).ne (by simp; omega))).trans hHeld.2.1), ((hgr5.cell_far _ (by simp; omega) ((unhide HBX).ne (by simp; omega))).trans hHeld.2.2.1), ((hgr5.cell_far _ (by simp; omega) ((unhide HBX).ne (by simp; omega))).trans hHeld.2.2.2.1), ((hgr5.cell_far _ (by simp; omega) ((unhide HBX).ne (by simp; omega))).trans hHeld.2.2.2.2)⟩) (fun hHeld2 => ?_)
        clear hK K hHeld
        have hHeld := hHeld2; clear hHeld2
        try simp only [Act.put, List.setIfInBounds_toArray, List.set_cons_zero, List.set_cons_succ]
        obtain ⟨HB5, k6, z6⟩ := (unhide HBX).appended (f := f) (by omega) ((Below.refl wr.heap.size wr).drew) hown5 hgr5
        have HB6 := hide HB5
        clear HB5 hown5 hgr5
        refine lateTake 9 (some 32) ?_ rfl (by kernel_rfl) (by kernel_rfl) (by kernel_rfl) (by kernel_rfl) rfl (fun _ _ _ h => h) (by rfl) (by assumption) ?_ ?_
        rotate_left
        · (intro w hSw; (try dsimp only at hSw); go_simp <;> with_reducible rfl)
        simp only [Act.put, List.setIfInBounds_toArray, List.set_cons_zero, List.set_cons_succ]
        refine lateLast 10 (by decide) (by kernel_rfl) rfl (by rfl) (fun K hK => ?_)
        go_simp
        refine hK.out _ _ ?_
        clear hK K hHeld
        try simp only [Act.put, List.setIfInBounds_toArray, List.set_cons_zero, List.set_cons_succ]
        refine lateDone (by kernel_rfl) ?_ _
        go_wp2
        go_roundw
        case rel => exact ⟨k + 1, _, by omega, by go_num, by rw [unhide HM]; exact unhide HB6⟩
        case measure => simp [intOf]; omega
      · have hm := withoutL_hit hgk heq
        have HM := hide hm
        have HBX := hide hbx
        clear hm hbx
        go_wp2
        go_roundw
        case rel => exact ⟨k + 1, ov, by omega, by go_num, by rw [unhide HM]; exact unhide HBX⟩
        case measure => simp [intOf]; omega
    · obtain rfl : k = l.length := by omega
      rw [List.take_length] at hbx
      have hkr := hbx.cell
      have hrr : wr.heap[w.heap.size + 1]? = some (.cells #[.slice none 0 0] 26 (0, 0)) := (hbx.2.2.block _ (by omega) (by intro e; have := Option.some.inj e; omega)).trans (unhide HR)
      have r0 := cell_of_row wr (w.heap.size + 1) 0 _ _ (0, 0) hrr
      have z0 := frozen_of_row wr (w.heap.size + 1) 0 _ _ hrr
      simp only [List.getElem?_toArray, List.getElem?_cons_zero] at r0
      obtain ⟨va, vn, vc, hv'⟩ : ∃ a n c, ov = .slice a n c := by rcases hbx.2.1.2 with ⟨h, _⟩ | ⟨_, _, _, h, _⟩ <;> exact ⟨_, _, _, h⟩
      subst hv'
      have HRR := hide (set1 (.slice va vn vc) hrr)
      have HOE := hide (ownsRow_setCell_below hbx.2.1 (a := ⟨w.heap.size + 1, 0, none⟩) (by show w.heap.size + 1 < _; omega) (.slice va vn vc))
      have HBE := hide ((hbx.below hb0 (by omega) (by omega)).setCell (p := ⟨w.heap.size + 1, 0, none⟩) (by show w.heap.size ≤ w.heap.size + 1; omega) (.slice va vn vc))
      clear hbx hrr
      go_wp2
      refine bodyPost_ret (results_cell_row rfl _ _ (w.heap.size + 1) 26 _ (0, 0) _ rfl (unhide HRR) Try.underlying26 rfl (by kernel_rfl)) rfl ?_
      exact ⟨.slice va vn vc, rfl, own_based (unhide HOE) (by omega), unhide HBE⟩
end Go.Proofs.Ytnlcknklghalkaa
