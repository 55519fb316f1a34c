/- The disk of a shelf. -/
import Derived.Test.YtnlcknklghalkaaBoxF
import Derived.Test.YtnlcknklghalkaaKeys
import Derived.Test.YtnlcknklghalkaaShelfAdd
namespace Go.Proofs.Ytnlcknklghalkaa
open Go.RowKit Go.Maps
open Plain
set_option linter.unusedVariables false
set_option linter.unusedSimpArgs false

theorem findS_at {s : List (Fl × Nat)} (ha : AscS s) {k : Nat} {p : Fl × Nat} (h : s[k]? = some p) : findS s p.1.name = some p := by
  induction s generalizing k with
  | nil => simp at h
  | cons q r ih =>
    obtain ⟨h1, h2⟩ := List.pairwise_cons.1 ha
    cases k with
    | zero =>
      simp at h; subst h
      unfold findS
      rw [List.find?_cons_of_pos (by simp)]
    | succ k =>
      simp at h
      have hp := List.mem_of_getElem? h
      unfold findS
      rw [List.find?_cons_of_neg (by rw [same_iff]; exact ltB_ne (h1 p hp))]
      exact ih h2 h
theorem Shelf.keep {B : Nat} {w w' : World} {b : Nat} {s : List (Fl × Nat)} (h : Shelf B w b s) (hk : ∀ k, k < w.heap.size → w'.heap[k]? = w.heap[k]?) : Shelf B w' b s := by
  have hl := h.lt
  obtain ⟨⟨es, clock, e1, e2, e3, e4⟩, h2, h3, h4, h5⟩ := h
  exact ⟨⟨es, clock, (hk b hl).trans e1, e2, e3, e4⟩, h2, fun p hp => ⟨(h3 p hp).1, (hk _ (h3 p hp).2.lt).trans (h3 p hp).2⟩, h4, h5⟩
theorem files_take {s : List (Fl × Nat)} {k : Nat} {p : Fl × Nat} (h : s[k]? = some p) : files (s.take (k + 1)) = files (s.take k) ++ [p.1] := by
  obtain ⟨hk, rfl⟩ := List.getElem?_eq_some_iff.1 h
  rw [List.take_succ_eq_append_getElem hk]
  unfold files
  rw [List.map_append]
  rfl

set_option maxHeartbeats 4000000 in
set_option maxRecDepth 100000 in
theorem sdisk_any (s : List (Fl × Nat)) (b B : Nat) (w : World) (hS : Shelf B w b s) (hR : DiskR (files s)) :
    Calls Try.prog 22 #[.map (some b)] w fun e w' => ∃ v', e = .returned (.agg #[v']) ∧ OwnF w.heap.size w' v' (files s) ∧ Below w.heap.size w w' := by
  obtain ⟨i0, hi, hz0, hz1, hz2⟩ := info_parts Try.infoFile
  have hsl : s.length ≤ 30 := by rw [← files_length]; exact hR.1
  have HD := hide (DiskR_iff.1 hR)
  have HS := hide hS
  have hbl := hS.lt
  clear hS hR
  go_enter Try.func22, Try.ntmps22
  go_wp2_with fail
  have hb0 := ((Below.refl w.heap.size w).alloc (Nat.le_refl _) (.cells #[.slice none 0 0] 26)).alloc (by simp) (.cells #[.slice none 0 0] 26)
  have hr0 : ((w.alloc (.cells #[.slice none 0 0] 26)).alloc (.cells #[.slice none 0 0] 26)).heap[w.heap.size]? = some (.cells #[.slice none 0 0] 26 (0, 0)) := by
    rw [Below.heap_alloc _ _ _ (by simp)]; exact heap_alloc_new _ _
  have ho0 : ((w.alloc (.cells #[.slice none 0 0] 26)).alloc (.cells #[.slice none 0 0] 26)).heap[w.heap.size + 1]? = some (.cells #[.slice none 0 0] 26 (0, 0)) := heap_alloc2_new _ _ _
  have hsz0 : ((w.alloc (.cells #[.slice none 0 0] 26)).alloc (.cells #[.slice none 0 0] 26)).heap.size = w.heap.size + 2 := by simp
  obtain ⟨W0, hW0⟩ : ∃ W0, W0 = (w.alloc (.cells #[.slice none 0 0] 26)).alloc (.cells #[.slice none 0 0] 26) := ⟨_, rfl⟩
  rw [← hW0] at hb0 hr0 ho0 hsz0 ⊢
  clear hW0
  refine (keys_any (some b) W0).mono ?_
  rintro e w1 ⟨rfl, hw1⟩
  subst w1
  have hS0 := (unhide HS).up hb0
  have HSRT := hide (sorted_any s b B W0 hS0 (by omega))
  rw [hsz0] at HSRT
  have HR0 := hide hr0; have HO0 := hide ho0
  clear hS0 hr0 ho0
  go_wp2_with fail
  refine (unhide HSRT).mono ?_
  rintro e W ⟨nv, rfl, hrow, hb1⟩
  have hbW : Below w.heap.size w W := (hb0.alloc (by omega) (.cells #[.map (some b)] 50)).trans (hb1.mono (by omega))
  have hszW : w.heap.size + 3 ≤ W.heap.size := by have := hb1.size; simp at this; omega
  have HR := hide ((hb1.block w.heap.size (by omega)).trans ((Below.heap_alloc _ _ _ (by omega)).trans (unhide HR0)))
  have HO := hide ((hb1.block (w.heap.size + 1) (by omega)).trans ((Below.heap_alloc _ _ _ (by omega)).trans (unhide HO0)))
  obtain ⟨na, nc, hnv, hnames⟩ : ∃ na nc, nv = .slice na s.length nc ∧ ∀ (k : Nat) (p : Fl × Nat), s[k]? = some p → ∃ gn, na = some ⟨gn, 0, none⟩ ∧ w.heap.size + 2 ≤ gn ∧ gn < W.heap.size ∧ W.cell? ⟨gn, k, none⟩ = some (.string p.1.name) := by
    rcases hrow.2 with ⟨rfl, h0⟩ | ⟨gn, nc, cur, rfl, hbn, hhn, _⟩
    · refine ⟨none, 0, by rw [h0], fun k p hp => ?_⟩
      rw [List.eq_nil_of_length_eq_zero h0] at hp; simp at hp
    · refine ⟨_, _, rfl, fun k p hp => ⟨gn, rfl, by omega, (hrow.lt _ rfl).2, ?_⟩⟩
      obtain ⟨hk, rfl⟩ := List.getElem?_eq_some_iff.1 hp
      have := hrow.cellAt k (by omega)
      rw [this]
      simp [hk]
  subst hnv
  have HN := hide hnames
  clear hrow hb1 HSRT HR0 HO0 hb0 hnames hsz0
  go_wp2
  go_loopw [10] (fun i wr => ∃ (k : Nat) (ov : Value), k ≤ s.length ∧ i = .int .i64 k ∧ Box W (w.heap.size + 1) wr ov (files (s.take k))) (fun i _ => s.length - (intOf i).toNat)
  case atStart => exact ⟨0, _, Nat.zero_le _, rfl, Box.start (unhide HO)⟩
  case round =>
    obtain ⟨k, ov, hk, rfl, hbx⟩ := hrel
    have hwr : W.heap.size ≤ wr.heap.size := hbx.2.2.size
    by_cases hlt : k < s.length
    · have hgk : s[k]? = some s[k] := List.getElem?_eq_getElem hlt
      obtain ⟨gn, hna, hg1, hg2, n0⟩ := unhide HN k s[k] hgk
      subst hna
      rw [← hbx.old (p := ⟨gn, k, none⟩) (by show gn < _; omega) (by show gn ≠ _; omega)] at n0
      have hik : (0 : Int) ≤ (k : Int) := by omega
      have hil : (k : Int) < (s.length : Int) := by omega
      have hfm : s[k].1 ∈ files s := List.mem_map_of_mem (List.getElem_mem hlt)
      obtain ⟨p1, p2, p3, p4⟩ := fileB_parts ((unhide HD).2.1 _ hfm)
      have hfs := findS_at (unhide HS).2.2.2.2 hgk
      have hFI := ((unhide HS).2.2.1 _ (List.getElem_mem hlt)).2
      have htk := files_take hgk
      have hlow : ∀ q, q < w.heap.size → wr.heap[q]? = w.heap[q]? := fun q hq => (hbx.2.2.block q (by omega) (by intro e; have := Option.some.inj e; omega)).trans (hbW.block q hq)
      have hnm : s[k].1.name.size ≤ 8 := by have := p1; simp [nameB] at this; omega
      generalize s[k] = p at *
      obtain ⟨⟨fn, ft, fk⟩, pg⟩ := p
      simp only at hfs hFI htk p1 p2 p3 p4 n0 hnm
      have hpl : pg < w.heap.size := hFI.lt
      have hlk : ∀ wx : World, (∀ q, q < w.heap.size → wx.heap[q]? = w.heap[q]?) → (Instr.lookup 50 (.map (some b)) (.string fn) false).run Try.prog wx = .ok (.pointer (some ⟨pg, 0, none⟩)) wx := fun wx hx => ((unhide HS).keep hx).look1 (by omega) hfs
      have lk : (Instr.lookup 50 (.map (some b)) (.string fn) false).run Try.prog wr.drew = .ok (.pointer (some ⟨pg, 0, none⟩)) wr.drew := hlk wr.drew hlow
      have hFr : FileIn wr (⟨fn, ft, fk⟩, pg) := (hlow pg hpl).trans hFI
      obtain ⟨c0, c1, c2⟩ := hFr.cells
      simp only at c0 c1 c2
      have hlo : (files (s.take k)).length ≤ 30 := by rw [files_length, List.length_take]; omega
      have HTK := hide htk
      have HLK := hide hlk; have HLO := hide hlow
      have HCP := hide (fun wx => copiedFile_any fn ft fk wx (by omega) (by omega))
      have bv1 := hbx.cell
      have HBX := hide hbx
      clear hbx hlk hlow htk hfs hFI hFr hfm
      generalize files (s.take k) = lo at *
      go_wp2
      refine lateBegin (S := fun w' => (Instr.lookup 50 (.map (some b)) (.string fn) false).run Try.prog w' = .ok (.pointer (some ⟨pg, 0, none⟩)) w' ∧ w'.cell? ⟨pg, 0, none⟩ = some (.string fn) ∧ w'.cell? ⟨pg, 1, none⟩ = some (.string ft) ∧ w'.cell? ⟨pg, 2, none⟩ = some (.int .i64 fk) ∧ w'.cell? ⟨w.heap.size + 1, 0, none⟩ = some ov) 11 (by kernel_rfl) (⟨lk, c0, c1, c2, bv1⟩) (fun hHeld => ?_)
      refine lateTake 0 (some 14) ?_ rfl (by kernel_rfl) (by kernel_rfl) (by kernel_rfl) (by kernel_rfl) rfl (fun _ _ _ h => h) (by rfl) (by assumption) ?_ ?_
      rotate_left
      · (intro w hSw; (try dsimp only at hSw); go_simp <;> with_reducible rfl)
      simp only [Act.put, List.setIfInBounds_toArray, List.set_cons_zero, List.set_cons_succ]
      refine lateTake 1 (some 15) ?_ rfl (by kernel_rfl) (by kernel_rfl) (by kernel_rfl) (by kernel_rfl) rfl (fun _ _ _ h => h) (by rfl) (by assumption) ?_ ?_
      rotate_left
      · (intro w hSw; (try dsimp only at hSw); go_simp <;> with_reducible rfl)
      simp only [Act.put, List.setIfInBounds_toArray, List.set_cons_zero, List.set_cons_succ]
      refine lateTake 2 (some 16) ?_ rfl (by kernel_rfl) (by kernel_rfl) (by kernel_rfl) (by kernel_rfl) rfl (fun _ _ _ h => h) (by rfl) (by assumption) ?_ ?_
      rotate_left
      · (intro w hSw; (try dsimp only at hSw); go_simp <;> with_reducible rfl)
      simp only [Act.put, List.setIfInBounds_toArray, List.set_cons_zero, List.set_cons_succ]
      refine lateTake 3 (some 17) ?_ rfl (by kernel_rfl) (by kernel_rfl) (by kernel_rfl) (by kernel_rfl) rfl (fun _ _ _ h => h) (by rfl) (by assumption) ?_ ?_
      rotate_left
      · (intro w hSw; (try dsimp only at hSw); go_simp <;> with_reducible rfl)
      simp only [Act.put, List.setIfInBounds_toArray, List.set_cons_zero, List.set_cons_succ]
      refine lateTake 4 (some 18) ?_ rfl (by kernel_rfl) (by kernel_rfl) (by kernel_rfl) (by kernel_rfl) rfl (fun _ _ _ h => h) (by rfl) (by assumption) ?_ ?_
      rotate_left
      · (intro w hSw; (try dsimp only at hSw); go_simp <;> with_reducible rfl)
      simp only [Act.put, List.setIfInBounds_toArray, List.set_cons_zero, List.set_cons_succ]
      refine lateTake 5 (some 19) ?_ rfl (by kernel_rfl) (by kernel_rfl) (by kernel_rfl) (by kernel_rfl) rfl (fun _ _ _ h => h) (by rfl) (by assumption) ?_ ?_
      rotate_left
      · (intro w hSw; (try dsimp only at hSw); go_simp <;> with_reducible rfl)
      simp only [Act.put, List.setIfInBounds_toArray, List.set_cons_zero, List.set_cons_succ]
      refine lateTake 6 (some 20) ?_ rfl (by kernel_rfl) (by kernel_rfl) (by kernel_rfl) (by kernel_rfl) rfl (fun _ _ _ h => h) (by rfl) (by assumption) ?_ ?_
      rotate_left
      · (intro w hSw; (try dsimp only at hSw); go_simp <;> with_reducible rfl)
      simp only [Act.put, List.setIfInBounds_toArray, List.set_cons_zero, List.set_cons_succ]
      refine lateStep 7 (by kernel_rfl) rfl (by rfl) (fun K hK => ?_)
      go_simp
      refine (unhide HCP wr.drew).mono ?_
      rintro e w4 ⟨rfl, hb4⟩
      go_wp2_with fail
      refine hK.out _ _ (⟨unhide HLK _ (fun k hk => (hb4.block k (by show k < wr.heap.size; omega)).trans (unhide HLO k hk)), (cell_on (w := wr.drew) hb4 hHeld.2.1), (cell_on (w := wr.drew) hb4 hHeld.2.2.1), (cell_on (w := wr.drew) hb4 hHeld.2.2.2.1), (cell_on (w := wr.drew) hb4 hHeld.2.2.2.2)⟩) (fun hHeld2 => ?_)
      clear hK K hHeld
      have hHeld := hHeld2; clear hHeld2
      try simp only [Act.put, List.setIfInBounds_toArray, List.set_cons_zero, List.set_cons_succ]
      have hB4 : Below wr.heap.size wr w4 := (Below.refl wr.heap.size wr).drew.trans hb4
      have hw4 : wr.heap.size ≤ w4.heap.size := hB4.size
      refine lateStep 8 (by kernel_rfl) rfl (by rfl) (fun K hK => ?_)
      go_simp
      refine hK.out _ _ (⟨unhide HLK _ (fun k hk => (Below.heap_alloc _ _ _ (by omega)).trans ((hB4.block k (by omega)).trans (unhide HLO k hk))), (cell_on ((Below.refl _ _).alloc (Nat.le_refl _) _) hHeld.2.1), (cell_on ((Below.refl _ _).alloc (Nat.le_refl _) _) hHeld.2.2.1), (cell_on ((Below.refl _ _).alloc (Nat.le_refl _) _) hHeld.2.2.2.1), (cell_on ((Below.refl _ _).alloc (Nat.le_refl _) _) hHeld.2.2.2.2)⟩) (fun hHeld2 => ?_)
      clear hK K hHeld
      have hHeld := hHeld2; clear hHeld2
      try simp only [Act.put, List.setIfInBounds_toArray, List.set_cons_zero, List.set_cons_succ]
      refine lateStep 9 (by kernel_rfl) rfl (by rfl) (fun K hK => ?_)
      refine wp_append_lies _ (.tmp 15) (.tmp 22) 24 rfl W.heap.size 55 i0 _ 3 40 Try.underlying24 hi hz0 hz1 hz2 rfl (by decide) ov lo.length (fcs lo) rfl (World.ownsRow.alloc (own_stays (unhide HBX).2.1 hB4) _) ⟨w4.heap.size, 0, none⟩ 1 1 (fc ⟨fn, ft, fk⟩) rfl rfl (World.news_of_block (cs := #[.string fn, .string ft, .int .i64 fk]) (t := 55) (fr := (0, 0)) (heap_alloc_new w4 _)) (one3F ⟨fn, ft, fk⟩) (by omega) (by unfold maxLen; omega) (by omega) (by simp; omega) (w4.heap.size + 1) (by simp) ?_
      intro gg cap w5 hown5 hgr5 hat5 hlt5
      refine hK.out _ _ (⟨unhide HLK _ (fun k hk => (hgr5.block k (by simp; omega) ((unhide HBX).ne (by omega))).trans ((Below.heap_alloc _ _ _ (by omega)).trans ((hB4.block k (by omega)).trans (unhide HLO k hk)))), ((hgr5.cell_far _ (by simp; omega) ((unhide HBX).ne (by simp; omega))).trans hHeld.2.1), ((hgr5.cell_far _ (by simp; omega) ((unhide HBX).ne (by simp; omega))).trans hHeld.2.2.1), ((hgr5.cell_far _ (by simp; omega) ((unhide HBX).ne (by simp; omega))).trans hHeld.2.2.2.1), ((hgr5.cell_far _ (by simp; omega) ((unhide HBX).ne (by simp; omega))).trans hHeld.2.2.2.2)⟩) (fun hHeld2 => ?_)
      clear hK K hHeld
      have hHeld := hHeld2; clear hHeld2
      try simp only [Act.put, List.setIfInBounds_toArray, List.set_cons_zero, List.set_cons_succ]
      obtain ⟨HB5, k6, z6⟩ := (unhide HBX).appended (f := ⟨fn, ft, fk⟩) (by omega) hB4 hown5 hgr5
      have HB6 := hide HB5
      clear HB5 hown5 hgr5
      refine lateTake 10 (some 24) ?_ rfl (by kernel_rfl) (by kernel_rfl) (by kernel_rfl) (by kernel_rfl) rfl (fun _ _ _ h => h) (by rfl) (by assumption) ?_ ?_
      rotate_left
      · (intro w hSw; (try dsimp only at hSw); go_simp <;> with_reducible rfl)
      simp only [Act.put, List.setIfInBounds_toArray, List.set_cons_zero, List.set_cons_succ]
      refine lateLast 11 (by decide) (by kernel_rfl) rfl (by rfl) (fun K hK => ?_)
      go_simp
      refine hK.out _ _ ?_
      clear hK K hHeld
      try simp only [Act.put, List.setIfInBounds_toArray, List.set_cons_zero, List.set_cons_succ]
      refine lateDone (by kernel_rfl) ?_ _
      go_wp2
      go_roundw
      case rel => exact ⟨k + 1, _, by omega, by go_num, by rw [unhide HTK]; exact unhide HB6⟩
      case measure => simp [intOf]; omega
    · obtain rfl : k = s.length := by omega
      rw [List.take_length] at hbx
      have hkr := hbx.cell
      have hrr : wr.heap[w.heap.size]? = some (.cells #[.slice none 0 0] 26 (0, 0)) := (hbx.2.2.block _ (by omega) (by intro e; have := Option.some.inj e; omega)).trans (unhide HR)
      have r0 := cell_of_row wr w.heap.size 0 _ _ (0, 0) hrr
      have z0 := frozen_of_row wr w.heap.size 0 _ _ hrr
      simp only [List.getElem?_toArray, List.getElem?_cons_zero] at r0
      obtain ⟨va, vn, vc, hv'⟩ : ∃ a n c, ov = .slice a n c := by rcases hbx.2.1.2 with ⟨h, _⟩ | ⟨_, _, _, h, _⟩ <;> exact ⟨_, _, _, h⟩
      subst hv'
      have HRR := hide (set1 (.slice va vn vc) hrr)
      have HOE := hide (ownsRow_setCell_below hbx.2.1 (a := ⟨w.heap.size, 0, none⟩) (by show w.heap.size < _; omega) (.slice va vn vc))
      have HBE := hide ((hbx.below hbW (by omega) (by omega)).setCell (p := ⟨w.heap.size, 0, none⟩) (by show w.heap.size ≤ w.heap.size; omega) (.slice va vn vc))
      clear hbx hrr
      go_wp2
      refine bodyPost_ret (results_cell_row rfl _ _ w.heap.size 26 _ (0, 0) _ rfl (unhide HRR) Try.underlying26 rfl (by kernel_rfl)) rfl ?_
      exact ⟨.slice va vn vc, rfl, own_based (unhide HOE) (by omega), unhide HBE⟩
end Go.Proofs.Ytnlcknklghalkaa
