/- A file that is put in its place: the specification's. -/
import Derived.Test.YtnlcknklghalkaaBoxF
import Derived.Test.YtnlcknklghalkaaActPlain
import Derived.Laws.Cover1
namespace Go.Proofs.Ytnlcknklghalkaa
open Go.RowKit
open Plain
set_option linter.unusedVariables false
set_option linter.unusedSimpArgs false

def ltsL (l : List Fl) (n : ByteArray) : List Fl := l.filter fun g => ltB g.name n
def gtsL (l : List Fl) (n : ByteArray) : List Fl := l.filter fun g => ltB n g.name
theorem putL_is (l : List Fl) (f : Fl) : putL l f = ltsL l f.name ++ [f] ++ gtsL l f.name := by simp [putL, ltsL, gtsL]
theorem filt_yes {p : Fl → Bool} {l : List Fl} {k : Nat} {f : Fl} (hf : l[k]? = some f) (h : p f = true) : (l.take (k + 1)).filter p = (l.take k).filter p ++ [f] := by
  obtain ⟨hk, rfl⟩ := List.getElem?_eq_some_iff.1 hf
  rw [List.take_succ_eq_append_getElem hk, List.filter_append, List.filter_cons_of_pos h, List.filter_nil]
theorem filt_no {p : Fl → Bool} {l : List Fl} {k : Nat} {f : Fl} (hf : l[k]? = some f) (h : p f = false) : (l.take (k + 1)).filter p = (l.take k).filter p := by
  obtain ⟨hk, rfl⟩ := List.getElem?_eq_some_iff.1 hf
  rw [List.take_succ_eq_append_getElem hk, List.filter_append, List.filter_cons_of_neg (by simp [h]), List.filter_nil, List.append_nil]
theorem filt_len (p : Fl → Bool) (l : List Fl) (k : Nat) : ((l.take k).filter p).length ≤ k := by
  have := List.length_filter_le p (l.take k)
  rw [List.length_take] at this
  omega

set_option maxHeartbeats 4000000 in
set_option maxRecDepth 100000 in
theorem l03Put_any (l : List Fl) (f : Fl) (v : Value) (B : Nat) (w : World) (hs : l.length ≤ 1048576) (h : OwnF B w v l) :
    Calls Try.prog 30 #[.agg #[v], .agg #[.string f.name, .string f.text, .int .i64 f.kept]] w fun e w' => ∃ v', e = .returned (.agg #[v']) ∧ OwnF w.heap.size w' v' (putL l f) ∧ Below w.heap.size w w' := by
  obtain ⟨a, c, rfl, hcell⟩ := h.shape
  obtain ⟨i0, hi, hz0, hz1, hz2⟩ := info_parts Try.infoFile
  have HC := hide hcell
  clear h hcell
  go_enter Try.func30, Try.ntmps30
  go_wp2
  obtain ⟨W, hW⟩ : ∃ W, W = ((((w.alloc (.cells #[.slice a l.length c] 26)).alloc (.cells #[.string f.name, .string f.text, .int .i64 f.kept] 55)).alloc (.cells #[.slice none 0 0] 26)).alloc (.cells #[.slice none 0 0] 26)) := ⟨_, rfl⟩
  have hb0 := (((((Below.refl w.heap.size w).alloc (Nat.le_refl _) (.cells #[.slice a l.length c] 26)).alloc (by simp <;> omega) (.cells #[.string f.name, .string f.text, .int .i64 f.kept] 55)).alloc (by simp <;> omega) (.cells #[.slice none 0 0] 26)).alloc (by simp <;> omega) (.cells #[.slice none 0 0] 26))
  rw [← hW] at hb0 ⊢
  have e0 : W.cell? ⟨w.heap.size, 0, none⟩ = some (.slice a l.length c) := by rw [hW]; go_simp
  have f0 : W.cell? ⟨w.heap.size + 1, 0, none⟩ = some (.string f.name) := by rw [hW]; go_simp
  have f0b : W.cell? ⟨w.heap.size + 1, 1, none⟩ = some (.string f.text) := by rw [hW]; go_simp
  have f0c : W.cell? ⟨w.heap.size + 1, 2, none⟩ = some (.int .i64 f.kept) := by rw [hW]; go_simp
  have hsz : W.heap.size = w.heap.size + 4 := by rw [hW]; simp
  have hr : W.heap[w.heap.size + 2]? = some (.cells #[.slice none 0 0] 26 (0, 0)) := by
    rw [hW, Below.heap_alloc _ _ _ (by simp)]
    have := heap_alloc_new ((w.alloc (.cells #[.slice a l.length c] 26)).alloc (.cells #[.string f.name, .string f.text, .int .i64 f.kept] 55)) (.cells #[.slice none 0 0] 26)
    simpa using this
  have ho : W.heap[w.heap.size + 3]? = some (.cells #[.slice none 0 0] 26 (0, 0)) := by
    rw [hW]
    have := heap_alloc_new (((w.alloc (.cells #[.slice a l.length c] 26)).alloc (.cells #[.string f.name, .string f.text, .int .i64 f.kept] 55)).alloc (.cells #[.slice none 0 0] 26)) (.cells #[.slice none 0 0] 26)
    simpa using this
  have HO := hide ho
  have HR := hide hr
  have F2 := hide f0b; have F3 := hide f0c
  clear hW ho hr f0b f0c
  go_loopw [6] (fun i wr => ∃ (k : Nat) (ov : Value), k ≤ l.length ∧ i = .int .i64 k ∧ Box W (w.heap.size + 3) wr ov (ltsL (l.take k) f.name)) (fun i _ => l.length - (intOf i).toNat)
  case atStart => exact ⟨0, _, Nat.zero_le _, rfl, Box.start (unhide HO)⟩
  case round =>
    obtain ⟨k, ov, hk, rfl, hbx⟩ := hrel
    have hwr : w.heap.size + 4 ≤ wr.heap.size := by have := hbx.2.2.size; omega
    have e1 := (hbx.old (p := ⟨w.heap.size, 0, none⟩) (by show w.heap.size < _; omega) (by show w.heap.size ≠ _; omega)).trans e0
    have f1 := (hbx.old (p := ⟨w.heap.size + 1, 0, none⟩) (by show w.heap.size + 1 < _; omega) (by show w.heap.size + 1 ≠ _; omega)).trans f0
    by_cases hlt : k < l.length
    · have hgk : l[k]? = some l[k] := List.getElem?_eq_getElem hlt
      obtain ⟨g, hga, hgl, c0, c1, c2⟩ := unhide HC k l[k] hgk
      rw [← hb0.cell (p := ⟨g, _, none⟩) hgl, ← hbx.old (p := ⟨g, _, none⟩) (by show g < _; omega) (by show g ≠ _; omega)] at c0 c1 c2
      subst hga
      have hik : (0 : Int) ≤ (k : Int) := by omega
      have hil : (k : Int) < (l.length : Int) := by omega
      have hfl := filt_len (fun g : Fl => ltB g.name f.name) l k
      cases heq : ltB l[k].name f.name
      · have hm := filt_no (p := (fun g : Fl => ltB g.name f.name)) hgk heq
        have HM := hide hm
        have HBX := hide hbx
        have hq : Op.bytesLess l[k].name.toList f.name.toList = false := heq
        clear hm hbx heq hfl
        go_wp2
        go_quiet (fail)
        go_wp2
        go_roundw
        case rel => exact ⟨k + 1, ov, by omega, by go_num, by unfold ltsL; rw [unhide HM]; exact (unhide HBX).drew _⟩
        case measure => simp [intOf]; omega
      · have hm := filt_yes (p := (fun g : Fl => ltB g.name f.name)) hgk heq
        have hq : Op.bytesLess l[k].name.toList f.name.toList = true := heq
        generalize l[k] = x at *
        have HM := hide hm
        have HBX0 := hide hbx
        clear hm hbx heq
        go_wp2
        go_quiet (fail)
        go_wp2
        have hbx : Box W (w.heap.size + 3) (wr.drewN nq) ov (ltsL (l.take k) f.name) := (unhide HBX0).drew nq
        have hlo : (ltsL (l.take k) f.name).length ≤ 1048576 + 1 + k := Nat.le_trans hfl (by omega)
        have HEQ := hide (show ltsL (l.take (k + 1)) f.name = (ltsL (l.take k) f.name) ++ [x] by unfold ltsL; rw [unhide HM])
        clear hfl
        generalize ltsL (l.take k) f.name = lo at *
        replace e1 : (wr.drewN nq).cell? ⟨w.heap.size, 0, none⟩ = some (.slice (some ⟨g, 0, none⟩) l.length c) := e1
        replace c0 : (wr.drewN nq).cell? ⟨g, k * 3, none⟩ = some (.string x.name) := c0
        replace c1 : (wr.drewN nq).cell? ⟨g, k * 3 + 1, none⟩ = some (.string x.text) := c1
        replace c2 : (wr.drewN nq).cell? ⟨g, k * 3 + 2, none⟩ = some (.int .i64 x.kept) := c2
        replace hwr : w.heap.size + 4 ≤ (wr.drewN nq).heap.size := hwr
        have bv1 := hbx.cell
        have HBX := hide hbx
        clear hbx HBX0 f1
        generalize wr.drewN nq = wq at *
        refine lateBegin (S := fun w' => w'.cell? ⟨w.heap.size, 0, none⟩ = some (.slice (some ⟨g, 0, none⟩) l.length c) ∧ w'.cell? ⟨g, k * 3, none⟩ = some (.string x.name) ∧ w'.cell? ⟨g, k * 3 + 1, none⟩ = some (.string x.text) ∧ w'.cell? ⟨g, k * 3 + 2, none⟩ = some (.int .i64 x.kept) ∧ w'.cell? ⟨w.heap.size + 3, 0, none⟩ = some ov) 10 (by kernel_rfl) (⟨e1, c0, c1, c2, bv1⟩) (fun hHeld => ?_)
        refine lateTake 0 (some 25) ?_ rfl (by kernel_rfl) (by kernel_rfl) (by kernel_rfl) (by kernel_rfl) rfl (fun _ _ _ h => h) (by rfl) (by assumption) ?_ ?_
        rotate_left
        · (intro w hSw; (try dsimp only at hSw); go_simp <;> with_reducible rfl)
        simp only [Act.put, List.setIfInBounds_toArray, List.set_cons_zero, List.set_cons_succ]
        refine lateTake 1 (some 26) ?_ rfl (by kernel_rfl) (by kernel_rfl) (by kernel_rfl) (by kernel_rfl) rfl (fun _ _ _ h => h) (by rfl) (by assumption) ?_ ?_
        rotate_left
        · (intro w hSw; (try dsimp only at hSw); go_simp <;> with_reducible rfl)
        simp only [Act.put, List.setIfInBounds_toArray, List.set_cons_zero, List.set_cons_succ]
        refine lateTake 2 (some 27) ?_ rfl (by kernel_rfl) (by kernel_rfl) (by kernel_rfl) (by kernel_rfl) rfl (fun _ _ _ h => h) (by rfl) (by assumption) ?_ ?_
        rotate_left
        · (intro w hSw; (try dsimp only at hSw); go_simp <;> with_reducible rfl)
        simp only [Act.put, List.setIfInBounds_toArray, List.set_cons_zero, List.set_cons_succ]
        refine lateTake 3 (some 28) ?_ rfl (by kernel_rfl) (by kernel_rfl) (by kernel_rfl) (by kernel_rfl) rfl (fun _ _ _ h => h) (by rfl) (by assumption) ?_ ?_
        rotate_left
        · (intro w hSw; (try dsimp only at hSw); go_simp <;> with_reducible rfl)
        simp only [Act.put, List.setIfInBounds_toArray, List.set_cons_zero, List.set_cons_succ]
        refine lateTake 4 (some 29) ?_ rfl (by kernel_rfl) (by kernel_rfl) (by kernel_rfl) (by kernel_rfl) rfl (fun _ _ _ h => h) (by rfl) (by assumption) ?_ ?_
        rotate_left
        · (intro w hSw; (try dsimp only at hSw); go_simp <;> with_reducible rfl)
        simp only [Act.put, List.setIfInBounds_toArray, List.set_cons_zero, List.set_cons_succ]
        refine lateTake 5 (some 30) ?_ rfl (by kernel_rfl) (by kernel_rfl) (by kernel_rfl) (by kernel_rfl) rfl (fun _ _ _ h => h) (by rfl) (by assumption) ?_ ?_
        rotate_left
        · (intro w hSw; (try dsimp only at hSw); go_simp <;> with_reducible rfl)
        simp only [Act.put, List.setIfInBounds_toArray, List.set_cons_zero, List.set_cons_succ]
        refine lateTake 6 (some 31) ?_ rfl (by kernel_rfl) (by kernel_rfl) (by kernel_rfl) (by kernel_rfl) rfl (fun _ _ _ h => h) (by rfl) (by assumption) ?_ ?_
        rotate_left
        · (intro w hSw; (try dsimp only at hSw); go_simp <;> with_reducible rfl)
        simp only [Act.put, List.setIfInBounds_toArray, List.set_cons_zero, List.set_cons_succ]
        refine lateStep 7 (by kernel_rfl) rfl (by rfl) (fun K hK => ?_)
        go_simp
        refine hK.out _ _ (⟨(cell_on ((Below.refl _ _).alloc (Nat.le_refl _) _) hHeld.1), (cell_on ((Below.refl _ _).alloc (Nat.le_refl _) _) hHeld.2.1), (cell_on ((Below.refl _ _).alloc (Nat.le_refl _) _) hHeld.2.2.1), (cell_on ((Below.refl _ _).alloc (Nat.le_refl _) _) hHeld.2.2.2.1), (cell_on ((Below.refl _ _).alloc (Nat.le_refl _) _) hHeld.2.2.2.2)⟩) (fun hHeld2 => ?_)
        clear hK K hHeld
        have hHeld := hHeld2; clear hHeld2
        try simp only [Act.put, List.setIfInBounds_toArray, List.set_cons_zero, List.set_cons_succ]
        refine lateStep 8 (by kernel_rfl) rfl (by rfl) (fun K hK => ?_)
        refine wp_append_lies _ (.tmp 26) (.tmp 32) 24 rfl W.heap.size 55 i0 _ 3 40 Try.underlying24 hi hz0 hz1 hz2 rfl (by decide) ov lo.length (fcs lo) rfl ((World.ownsRow.alloc (unhide HBX).2.1 _).drew) ⟨wq.heap.size, 0, none⟩ 1 1 (fc x) rfl rfl (World.news_of_block (cs := #[.string x.name, .string x.text, .int .i64 x.kept]) (t := 55) (fr := (0, 0)) (heap_alloc_new wq _)) (one3F x) (by omega) (by unfold maxLen; omega) (by omega) (by simp; omega) (wq.heap.size + 1) (by simp) ?_
        intro gg cap w5 hown5 hgr5 hat5 hlt5
        refine hK.out _ _ (⟨((hgr5.cell_far _ (by simp; omega) ((unhide HBX).ne (by simp; omega))).trans hHeld.1), ((hgr5.cell_far _ (by simp; omega) ((unhide HBX).ne (by simp; omega))).trans hHeld.2.1), ((hgr5.cell_far _ (by simp; omega) ((unhide HBX).ne (by simp; omega))).trans hHeld.2.2.1), ((hgr5.cell_far _ (by simp; omega) ((unhide HBX).ne (by simp; omega))).trans hHeld.2.2.2.1), ((hgr5.cell_far _ (by simp; omega) ((unhide HBX).ne (by simp; omega))).trans hHeld.2.2.2.2)⟩) (fun hHeld2 => ?_)
        clear hK K hHeld
        have hHeld := hHeld2; clear hHeld2
        try simp only [Act.put, List.setIfInBounds_toArray, List.set_cons_zero, List.set_cons_succ]
        obtain ⟨HB5, k6, z6⟩ := (unhide HBX).appended (f := x) (by omega) ((Below.refl wq.heap.size wq).drew) hown5 hgr5
        have HB6 := hide HB5
        clear HB5 hown5 hgr5
        refine lateTake 9 (some 34) ?_ rfl (by kernel_rfl) (by kernel_rfl) (by kernel_rfl) (by kernel_rfl) rfl (fun _ _ _ h => h) (by rfl) (by assumption) ?_ ?_
        rotate_left
        · (intro w hSw; (try dsimp only at hSw); go_simp <;> with_reducible rfl)
        simp only [Act.put, List.setIfInBounds_toArray, List.set_cons_zero, List.set_cons_succ]
        refine lateLast 10 (by decide) (by kernel_rfl) rfl (by rfl) (fun K hK => ?_)
        go_simp
        refine hK.out _ _ ?_
        clear hK K hHeld
        try simp only [Act.put, List.setIfInBounds_toArray, List.set_cons_zero, List.set_cons_succ]
        refine lateDone (by kernel_rfl) ?_ _
        go_wp2
        go_roundw
        case rel => exact ⟨k + 1, _, by omega, by go_num, by rw [unhide HEQ]; exact unhide HB6⟩
        case measure => simp [intOf]; omega
    · obtain rfl : k = l.length := by omega
      rw [List.take_length] at hbx
      have f2 := (hbx.old (p := ⟨w.heap.size + 1, 1, none⟩) (by show w.heap.size + 1 < _; omega) (by show w.heap.size + 1 ≠ _; omega)).trans (unhide F2)
      have f3 := (hbx.old (p := ⟨w.heap.size + 1, 2, none⟩) (by show w.heap.size + 1 < _; omega) (by show w.heap.size + 1 ≠ _; omega)).trans (unhide F3)
      have bv1 := hbx.cell
      have hl1 : (ltsL l f.name).length ≤ l.length := List.length_filter_le _ _
      have HBX := hide hbx
      clear hbx
      go_wp2_with (at_builtin; refine wpList_append_lies _ rfl (.tmp 36) (.tmp 38) 24 rfl W.heap.size 55 i0 _ 3 40 Try.underlying24 hi hz0 hz1 hz2 rfl (by decide) ov (ltsL l f.name).length (fcs (ltsL l f.name)) rfl (World.ownsRow.alloc (unhide HBX).2.1 _) ⟨wr.heap.size, 0, none⟩ 1 1 (fc f) rfl rfl (World.news_of_block (cs := #[.string f.name, .string f.text, .int .i64 f.kept]) (t := 55) (fr := (0, 0)) (heap_alloc_new wr _)) (one3F f) (by omega) (by unfold maxLen; omega) (by omega) (by simp; omega) (wr.heap.size + 1) (by simp) ?_; intro gg cap w5 hown5 hgr5 hat5 hlt5; obtain ⟨HB5, k6, z6⟩ := (unhide HBX).appended (f := f) (by omega) (Below.refl _ _) hown5 hgr5; have HB6 := hide HB5; clear HB5 hown5 hgr5)
      clear e1 f1 f2 f3 bv1 HBX
      go_loopw [7] (fun i wr => ∃ (k : Nat) (ov : Value), k ≤ l.length ∧ i = .int .i64 k ∧ Box W (w.heap.size + 3) wr ov (ltsL l f.name ++ [f] ++ gtsL (l.take k) f.name)) (fun i _ => l.length - (intOf i).toNat)
      case atStart => exact ⟨0, _, Nat.zero_le _, rfl, by rw [List.take_zero]; show Box W _ _ _ (ltsL l f.name ++ [f] ++ []); rw [List.append_nil]; exact unhide HB6⟩
      case round =>
        clear HB6 k6 z6
        obtain ⟨k, ov, hk, rfl, hbx⟩ := hrel
        have hwr : w.heap.size + 4 ≤ wr.heap.size := by have := hbx.2.2.size; omega
        have e1 := (hbx.old (p := ⟨w.heap.size, 0, none⟩) (by show w.heap.size < _; omega) (by show w.heap.size ≠ _; omega)).trans e0
        have f1 := (hbx.old (p := ⟨w.heap.size + 1, 0, none⟩) (by show w.heap.size + 1 < _; omega) (by show w.heap.size + 1 ≠ _; omega)).trans f0
        by_cases hlt : k < l.length
        · have hgk : l[k]? = some l[k] := List.getElem?_eq_getElem hlt
          obtain ⟨g, hga, hgl, c0, c1, c2⟩ := unhide HC k l[k] hgk
          rw [← hb0.cell (p := ⟨g, _, none⟩) hgl, ← hbx.old (p := ⟨g, _, none⟩) (by show g < _; omega) (by show g ≠ _; omega)] at c0 c1 c2
          subst hga
          have hik : (0 : Int) ≤ (k : Int) := by omega
          have hil : (k : Int) < (l.length : Int) := by omega
          have hfl := filt_len (fun g : Fl => ltB f.name g.name) l k
          cases heq : ltB f.name l[k].name
          · have hm := filt_no (p := (fun g : Fl => ltB f.name g.name)) hgk heq
            have HM := hide hm
            have HBX := hide hbx
            have hq : (Op.bytesLess l[k].name.toList f.name.toList || l[k].name.toList == f.name.toList) = true := by rw [leB, heq]; rfl
            clear hm hbx heq hfl
            cases h1 : Op.bytesLess l[k].name.toList f.name.toList
            · have h2 : (l[k].name.toList == f.name.toList) = true := by rw [h1] at hq; simpa using hq
              clear hq
              go_wp2
              go_quiet (fail)
              go_wp2
              go_roundw
              case rel => exact ⟨k + 1, ov, by omega, by go_num, by unfold gtsL; rw [unhide HM]; exact (unhide HBX).drew _⟩
              case measure => simp [intOf]; omega
            · clear hq
              go_wp2
              go_quiet (fail)
              go_wp2
              go_roundw
              case rel => exact ⟨k + 1, ov, by omega, by go_num, by unfold gtsL; rw [unhide HM]; exact (unhide HBX).drew _⟩
              case measure => simp [intOf]; omega
          · have hm := filt_yes (p := (fun g : Fl => ltB f.name g.name)) hgk heq
            have hq : (Op.bytesLess l[k].name.toList f.name.toList || l[k].name.toList == f.name.toList) = false := by rw [leB, heq]; rfl
            rw [Bool.or_eq_false_iff] at hq
            obtain ⟨hq1, hq2⟩ := hq
            generalize l[k] = x at *
            have HM := hide hm
            have HBX0 := hide hbx
            clear hm hbx heq
            go_wp2
            go_quiet (fail)
            go_wp2
            have hbx : Box W (w.heap.size + 3) (wr.drewN nq) ov (ltsL l f.name ++ [f] ++ gtsL (l.take k) f.name) := (unhide HBX0).drew nq
            have hlo : (ltsL l f.name ++ [f] ++ gtsL (l.take k) f.name).length ≤ 1048576 + 1 + k := by rw [List.length_append, List.length_append]; have : (gtsL (l.take k) f.name).length ≤ k := hfl; simp; omega
            have HEQ := hide (show ltsL l f.name ++ [f] ++ gtsL (l.take (k + 1)) f.name = (ltsL l f.name ++ [f] ++ gtsL (l.take k) f.name) ++ [x] by unfold gtsL; rw [unhide HM]; simp)
            clear hfl
            generalize ltsL l f.name ++ [f] ++ gtsL (l.take k) f.name = lo at *
            replace e1 : (wr.drewN nq).cell? ⟨w.heap.size, 0, none⟩ = some (.slice (some ⟨g, 0, none⟩) l.length c) := e1
            replace c0 : (wr.drewN nq).cell? ⟨g, k * 3, none⟩ = some (.string x.name) := c0
            replace c1 : (wr.drewN nq).cell? ⟨g, k * 3 + 1, none⟩ = some (.string x.text) := c1
            replace c2 : (wr.drewN nq).cell? ⟨g, k * 3 + 2, none⟩ = some (.int .i64 x.kept) := c2
            replace hwr : w.heap.size + 4 ≤ (wr.drewN nq).heap.size := hwr
            have bv1 := hbx.cell
            have HBX := hide hbx
            clear hbx HBX0 f1
            generalize wr.drewN nq = wq at *
            refine lateBegin (S := fun w' => w'.cell? ⟨w.heap.size, 0, none⟩ = some (.slice (some ⟨g, 0, none⟩) l.length c) ∧ w'.cell? ⟨g, k * 3, none⟩ = some (.string x.name) ∧ w'.cell? ⟨g, k * 3 + 1, none⟩ = some (.string x.text) ∧ w'.cell? ⟨g, k * 3 + 2, none⟩ = some (.int .i64 x.kept) ∧ w'.cell? ⟨w.heap.size + 3, 0, none⟩ = some ov) 10 (by kernel_rfl) (⟨e1, c0, c1, c2, bv1⟩) (fun hHeld => ?_)
            refine lateTake 0 (some 57) ?_ rfl (by kernel_rfl) (by kernel_rfl) (by kernel_rfl) (by kernel_rfl) rfl (fun _ _ _ h => h) (by rfl) (by assumption) ?_ ?_
            rotate_left
            · (intro w hSw; (try dsimp only at hSw); go_simp <;> with_reducible rfl)
            simp only [Act.put, List.setIfInBounds_toArray, List.set_cons_zero, List.set_cons_succ]
            refine lateTake 1 (some 58) ?_ rfl (by kernel_rfl) (by kernel_rfl) (by kernel_rfl) (by kernel_rfl) rfl (fun _ _ _ h => h) (by rfl) (by assumption) ?_ ?_
            rotate_left
            · (intro w hSw; (try dsimp only at hSw); go_simp <;> with_reducible rfl)
            simp only [Act.put, List.setIfInBounds_toArray, List.set_cons_zero, List.set_cons_succ]
            refine lateTake 2 (some 59) ?_ rfl (by kernel_rfl) (by kernel_rfl) (by kernel_rfl) (by kernel_rfl) rfl (fun _ _ _ h => h) (by rfl) (by assumption) ?_ ?_
            rotate_left
            · (intro w hSw; (try dsimp only at hSw); go_simp <;> with_reducible rfl)
            simp only [Act.put, List.setIfInBounds_toArray, List.set_cons_zero, List.set_cons_succ]
            refine lateTake 3 (some 60) ?_ rfl (by kernel_rfl) (by kernel_rfl) (by kernel_rfl) (by kernel_rfl) rfl (fun _ _ _ h => h) (by rfl) (by assumption) ?_ ?_
            rotate_left
            · (intro w hSw; (try dsimp only at hSw); go_simp <;> with_reducible rfl)
            simp only [Act.put, List.setIfInBounds_toArray, List.set_cons_zero, List.set_cons_succ]
            refine lateTake 4 (some 61) ?_ rfl (by kernel_rfl) (by kernel_rfl) (by kernel_rfl) (by kernel_rfl) rfl (fun _ _ _ h => h) (by rfl) (by assumption) ?_ ?_
            rotate_left
            · (intro w hSw; (try dsimp only at hSw); go_simp <;> with_reducible rfl)
            simp only [Act.put, List.setIfInBounds_toArray, List.set_cons_zero, List.set_cons_succ]
            refine lateTake 5 (some 62) ?_ rfl (by kernel_rfl) (by kernel_rfl) (by kernel_rfl) (by kernel_rfl) rfl (fun _ _ _ h => h) (by rfl) (by assumption) ?_ ?_
            rotate_left
            · (intro w hSw; (try dsimp only at hSw); go_simp <;> with_reducible rfl)
            simp only [Act.put, List.setIfInBounds_toArray, List.set_cons_zero, List.set_cons_succ]
            refine lateTake 6 (some 63) ?_ rfl (by kernel_rfl) (by kernel_rfl) (by kernel_rfl) (by kernel_rfl) rfl (fun _ _ _ h => h) (by rfl) (by assumption) ?_ ?_
            rotate_left
            · (intro w hSw; (try dsimp only at hSw); go_simp <;> with_reducible rfl)
            simp only [Act.put, List.setIfInBounds_toArray, List.set_cons_zero, List.set_cons_succ]
            refine lateStep 7 (by kernel_rfl) rfl (by rfl) (fun K hK => ?_)
            go_simp
            refine hK.out _ _ (⟨(cell_on ((Below.refl _ _).alloc (Nat.le_refl _) _) hHeld.1), (cell_on ((Below.refl _ _).alloc (Nat.le_refl _) _) hHeld.2.1), (cell_on ((Below.refl _ _).alloc (Nat.le_refl _) _) hHeld.2.2.1), (cell_on ((Below.refl _ _).alloc (Nat.le_refl _) _) hHeld.2.2.2.1), (cell_on ((Below.refl _ _).alloc (Nat.le_refl _) _) hHeld.2.2.2.2)⟩) (fun hHeld2 => ?_)
            clear hK K hHeld
            have hHeld := hHeld2; clear hHeld2
            try simp only [Act.put, List.setIfInBounds_toArray, List.set_cons_zero, List.set_cons_succ]
            refine lateStep 8 (by kernel_rfl) rfl (by rfl) (fun K hK => ?_)
            refine wp_append_lies _ (.tmp 58) (.tmp 64) 24 rfl W.heap.size 55 i0 _ 3 40 Try.underlying24 hi hz0 hz1 hz2 rfl (by decide) ov lo.length (fcs lo) rfl ((World.ownsRow.alloc (unhide HBX).2.1 _).drew) ⟨wq.heap.size, 0, none⟩ 1 1 (fc x) rfl rfl (World.news_of_block (cs := #[.string x.name, .string x.text, .int .i64 x.kept]) (t := 55) (fr := (0, 0)) (heap_alloc_new wq _)) (one3F x) (by omega) (by unfold maxLen; omega) (by omega) (by simp; omega) (wq.heap.size + 1) (by simp) ?_
            intro gg cap w5 hown5 hgr5 hat5 hlt5
            refine hK.out _ _ (⟨((hgr5.cell_far _ (by simp; omega) ((unhide HBX).ne (by simp; omega))).trans hHeld.1), ((hgr5.cell_far _ (by simp; omega) ((unhide HBX).ne (by simp; omega))).trans hHeld.2.1), ((hgr5.cell_far _ (by simp; omega) ((unhide HBX).ne (by simp; omega))).trans hHeld.2.2.1), ((hgr5.cell_far _ (by simp; omega) ((unhide HBX).ne (by simp; omega))).trans hHeld.2.2.2.1), ((hgr5.cell_far _ (by simp; omega) ((unhide HBX).ne (by simp; omega))).trans hHeld.2.2.2.2)⟩) (fun hHeld2 => ?_)
            clear hK K hHeld
            have hHeld := hHeld2; clear hHeld2
            try simp only [Act.put, List.setIfInBounds_toArray, List.set_cons_zero, List.set_cons_succ]
            obtain ⟨HB5, k6, z6⟩ := (unhide HBX).appended (f := x) (by omega) ((Below.refl wq.heap.size wq).drew) hown5 hgr5
            have HB6 := hide HB5
            clear HB5 hown5 hgr5
            refine lateTake 9 (some 66) ?_ rfl (by kernel_rfl) (by kernel_rfl) (by kernel_rfl) (by kernel_rfl) rfl (fun _ _ _ h => h) (by rfl) (by assumption) ?_ ?_
            rotate_left
            · (intro w hSw; (try dsimp only at hSw); go_simp <;> with_reducible rfl)
            simp only [Act.put, List.setIfInBounds_toArray, List.set_cons_zero, List.set_cons_succ]
            refine lateLast 10 (by decide) (by kernel_rfl) rfl (by rfl) (fun K hK => ?_)
            go_simp
            refine hK.out _ _ ?_
            clear hK K hHeld
            try simp only [Act.put, List.setIfInBounds_toArray, List.set_cons_zero, List.set_cons_succ]
            refine lateDone (by kernel_rfl) ?_ _
            go_wp2
            go_roundw
            case rel => exact ⟨k + 1, _, by omega, by go_num, by rw [unhide HEQ]; exact unhide HB6⟩
            case measure => simp [intOf]; omega
        · obtain rfl : k = l.length := by omega
          rw [List.take_length, ← putL_is] at hbx
          have hkr := hbx.cell
          have hrr : wr.heap[w.heap.size + 2]? = some (.cells #[.slice none 0 0] 26 (0, 0)) := (hbx.2.2.block _ (by omega) (by intro e; have := Option.some.inj e; omega)).trans (unhide HR)
          have r0 := cell_of_row wr (w.heap.size + 2) 0 _ _ (0, 0) hrr
          have z0 := frozen_of_row wr (w.heap.size + 2) 0 _ _ hrr
          simp only [List.getElem?_toArray, List.getElem?_cons_zero] at r0
          obtain ⟨va, vn, vc, hv'⟩ : ∃ a n c, ov = .slice a n c := by rcases hbx.2.1.2 with ⟨h, _⟩ | ⟨_, _, _, h, _⟩ <;> exact ⟨_, _, _, h⟩
          subst hv'
          have HRR := hide (set1 (.slice va vn vc) hrr)
          have HOE := hide (ownsRow_setCell_below hbx.2.1 (a := ⟨w.heap.size + 2, 0, none⟩) (by show w.heap.size + 2 < _; omega) (.slice va vn vc))
          have HBE := hide ((hbx.below hb0 (by omega) (by omega)).setCell (p := ⟨w.heap.size + 2, 0, none⟩) (by show w.heap.size ≤ w.heap.size + 2; omega) (.slice va vn vc))
          clear hbx hrr
          go_wp2
          refine bodyPost_ret (results_cell_row rfl _ _ (w.heap.size + 2) 26 _ (0, 0) _ rfl (unhide HRR) Try.underlying26 rfl (by kernel_rfl)) rfl ?_
          exact ⟨.slice va vn vc, rfl, own_based (unhide HOE) (by omega), unhide HBE⟩
end Go.Proofs.Ytnlcknklghalkaa
