/- What the power leaves of a disk: the specification's answer. -/
import Derived.Test.YtnlcknklghalkaaLose
import Derived.Test.YtnlcknklghalkaaDiskS
namespace Go.Proofs.Ytnlcknklghalkaa
open Go.RowKit
open Plain
set_option linter.unusedVariables false
set_option linter.unusedSimpArgs false

set_option maxHeartbeats 4000000 in
set_option maxRecDepth 100000 in
theorem spec_LoseDisk_any (l : List Fl) (left : List Int) (v u : Value) (B B2 : Nat) (w : World) (hs : SmallF 1048576 l) (h : OwnF B w v l) (hs2 : left.length ≤ 1048576) (h2 : OwnI B2 w u left) :
    Calls Try.prog 27 #[.agg #[v], u] w fun e w' => ∃ v', e = .returned (.tuple #[.agg #[v'], .bool (diskB l)]) ∧ OwnF w.heap.size w' v' (lostL l left) ∧ Below w.heap.size w w' := by
  obtain ⟨a, c, rfl, hcell⟩ := h.shape
  obtain ⟨aL, cL, rfl, hleft⟩ := h2.shape
  obtain ⟨i0, hi, hz0, hz1, hz2⟩ := info_parts Try.infoFile
  have hs0 := hs.1
  have HC := hide hcell
  have HL := hide hleft
  have HS := hide hs
  have HO := hide h
  clear h hcell hs h2 hleft
  go_enter Try.func27, Try.ntmps27
  go_wp2_with fail
  obtain ⟨W, hW⟩ : ∃ W, W = ((w.alloc (.cells #[.slice a l.length c] 26)).alloc (.cells #[.slice none 0 0] 26)) := ⟨_, rfl⟩
  have hb0 := ((Below.refl w.heap.size w).alloc (Nat.le_refl _) (.cells #[.slice a l.length c] 26)).alloc (by simp) (.cells #[.slice none 0 0] 26)
  have e0 : ((w.alloc (.cells #[.slice a l.length c] 26)).alloc (.cells #[.slice none 0 0] 26)).cell? ⟨w.heap.size, 0, none⟩ = some (.slice a l.length c) := by go_simp
  have hr : ((w.alloc (.cells #[.slice a l.length c] 26)).alloc (.cells #[.slice none 0 0] 26)).heap[w.heap.size + 1]? = some (.cells #[.slice none 0 0] 26 (0, 0)) := heap_alloc2_new _ _ _
  have hsz : ((w.alloc (.cells #[.slice a l.length c] 26)).alloc (.cells #[.slice none 0 0] 26)).heap.size = w.heap.size + 2 := by simp
  rw [← hW] at hb0 e0 hr hsz ⊢
  clear hW
  refine (spec_DiskOk_any l _ B W (unhide HS) (own_stays (unhide HO) hb0)).mono ?_
  rintro e w1 ⟨rfl, hb1⟩
  have e1 := (hb1.cell (p := ⟨w.heap.size, 0, none⟩) (by show w.heap.size < _; omega)).trans e0
  have hr1 := (hb1.block (w.heap.size + 1) (by omega)).trans hr
  have B1 := hide (hb0.trans (hb1.mono (by omega)))
  have hsz1 : w.heap.size + 2 ≤ w1.heap.size := by have := hb1.size; omega
  clear hb0 hb1 hr e0
  cases hd : diskB l
  · have HDB := hide hd
    have HR := hide (show lostL l left = [] by unfold lostL; rw [hd]; rfl)
    have HR1 := hide (set1 (.slice none 0 0) hr1)
    have r0 := cell_of_row w1 (w.heap.size + 1) 0 _ _ (0, 0) hr1
    have z0 := frozen_of_row w1 (w.heap.size + 1) 0 _ _ hr1
    simp only [List.getElem?_toArray, List.getElem?_cons_zero] at r0
    clear hd hr1
    go_wp2
    refine bodyPost_ret (by rw [results_cell_tmp rfl]; simp [asAddr, run_loadVar_row _ _ _ _ _ _ _ (unhide HR1) Try.underlying26 rfl (by kernel_rfl)]; rfl) rfl ?_
    exact ⟨.slice none 0 0, by rw [unhide HDB], by rw [unhide HR]; exact World.ownsRow_nil _ _ _ _, (unhide B1).setCell (by simp) _⟩
  · have HDB := hide hd
    have HD := hide (diskB_iff.1 hd)
    have HR := hide (show lostL l left = loseL l left by unfold lostL; rw [hd]; rfl)
    have HR1 := hide hr1
    have ea : ∀ o, (w1.alloc o).cell? ⟨w.heap.size, 0, none⟩ = some (.slice a l.length c) := fun o => (World.cell?_alloc_lt _ _ _ (by show w.heap.size < _; omega)).trans e1
    clear hd hr1
    go_wp2
    obtain ⟨W2, hW2⟩ : ∃ W2, W2 = w1.alloc (.cells #[.slice none 0 0] 26) := ⟨_, rfl⟩
    have hb2 := (Below.refl w1.heap.size w1).alloc (Nat.le_refl _) (.cells #[.slice none 0 0] 26)
    have ho : (w1.alloc (.cells #[.slice none 0 0] 26)).heap[w1.heap.size]? = some (.cells #[.slice none 0 0] 26 (0, 0)) := heap_alloc_new _ _
    have hsz2 : (w1.alloc (.cells #[.slice none 0 0] 26)).heap.size = w1.heap.size + 1 := by simp
    rw [← hW2] at hb2 ho hsz2 ⊢
    clear hW2 ea
    go_loopw [7] (fun i wr => ∃ (k : Nat) (ov : Value), k ≤ l.length ∧ i = .int .i64 k ∧ wr.heap[w1.heap.size]? = some (.cells #[ov] 26 (0, 0)) ∧ OwnF W2.heap.size wr ov (loseTo l left k) ∧ W2.grownBy wr (some w1.heap.size)) (fun i _ => l.length - (intOf i).toNat)
    case atStart => exact ⟨0, _, Nat.zero_le _, rfl, ho, World.ownsRow_nil _ _ _ _, ⟨rfl, rfl, rfl, Nat.le_refl _, fun _ _ _ => rfl⟩⟩
    case round =>
      obtain ⟨k, ov, hk, rfl, hov, hown, hgr⟩ := hrel
      have hwr : w1.heap.size + 1 ≤ wr.heap.size := by have := hgr.size; omega
      have eb : wr.cell? ⟨w.heap.size, 0, none⟩ = some (.slice a l.length c) := (World.cell?_of_block (w := W2) (hgr.block w.heap.size (by omega) (by intro e; have := Option.some.inj e; omega))).trans ((hb2.cell (p := ⟨w.heap.size, 0, none⟩) (by show w.heap.size < _; omega)).trans e1)
      by_cases hlt : k < l.length
      · have hgk : l[k]? = some l[k] := List.getElem?_eq_getElem hlt
        obtain ⟨g, rfl, hgl, c0, c1, c2⟩ := unhide HC k l[k] hgk
        obtain ⟨hn1, hn2⟩ := (unhide HS).2 l[k] (List.getElem_mem _)
        obtain ⟨hk1, hk2⟩ := (unhide HD).kept hgk
        have old : ∀ (p : Addr), p.block < w.heap.size → wr.cell? p = w.cell? p := fun p hp =>
          (World.cell?_of_block (hgr.block p.block (by omega) (by intro e; have := Option.some.inj e; omega))).trans ((hb2.cell (p := p) (by omega)).trans ((unhide B1).cell hp))
        rw [← old ⟨g, _, none⟩ hgl] at c0 c1 c2
        have hsucc := loseTo_succ (left := left) hgk
        have OLD := hide old
        generalize l[k] = f at c0 c1 c2 hgk hn1 hn2 hk1 hk2 hsucc
        have HSU := hide hsucc
        have HG := hide hgk
        have HOV := hide hov
        have HOW := hide hown
        clear hsucc hgk hov hown old
        obtain ⟨fn, ft, fk⟩ := f
        simp only at c0 c1 c2 hn1 hn2 hk1 hk2
        by_cases hll : k < left.length
        · obtain ⟨gL, rfl, hgL, d0⟩ := unhide HL k left[k] (List.getElem?_eq_getElem hll)
          rw [← unhide OLD ⟨gL, _, none⟩ hgL] at d0
          have hgd : left.getD k 0 = left[k] := by simp [List.getD, List.getElem?_eq_getElem hll]
          rw [hgd] at HSU
          generalize left[k] = x at d0 HSU
          clear hgd
          have dd : ∀ o, (wr.alloc o).cell? ⟨gL, k, none⟩ = some (.int .i64 x) := fun o => (World.cell?_alloc_lt _ _ _ (by show gL < _; omega)).trans d0
          by_cases hc1 : (ft.size : Int) < x
          · go_wp2
            obtain ⟨N, hNv⟩ : ∃ N, N = (ft.size : Int) := ⟨_, rfl⟩
            have hN : N = max fk (min x (ft.size : Int)) := by rw [hNv]; omega
            obtain ⟨T, hT⟩ : ∃ T, T = ft.extract 0 N.toNat := ⟨_, rfl⟩
            have hNb1 : 0 ≤ N := by rw [hN]; omega
            have hNb2 : N ≤ (ft.size : Int) := by rw [hN]; omega
            have HTT := hide hT
            have HLF := hide (show loseF ⟨fn, ft, fk⟩ x = ⟨fn, T, N⟩ by unfold loseF keepN; simp only; rw [← hN, ← hT])
            rw [unhide HLF] at HSU
            rw [← hNv]
            have HNB := hide (fun b (hb : ov.ownBlock = some b) => (show W2.heap.size ≤ b ∧ b < wr.heap.size from (unhide HOW).lt b hb))
            clear hN hT HLF hNv
            obtain ⟨W3, hW3⟩ : ∃ W3, W3 = wr.alloc (.cells #[.string fn, .string ft, .int .i64 fk] 55) := ⟨_, rfl⟩
            have s0 : W3.cell? ⟨wr.heap.size, 0, none⟩ = some (.string fn) := by rw [hW3]; go_simp
            have s1 : W3.cell? ⟨wr.heap.size, 1, none⟩ = some (.string ft) := by rw [hW3]; go_simp
            have s2 : W3.cell? ⟨wr.heap.size, 2, none⟩ = some (.int .i64 fk) := by rw [hW3]; go_simp
            have hB3 : Below wr.heap.size wr W3 := by rw [hW3]; exact (Below.refl _ _).alloc (Nat.le_refl _) _
            have hsz3 : W3.heap.size = wr.heap.size + 1 := by rw [hW3]; simp
            have hov3 : W3.heap[w1.heap.size]? = some (.cells #[ov] 26 (0, 0)) := (hB3.block _ (by omega)).trans (unhide HOV)
            rw [← hW3]
            clear hW3
            have keepf : Hid (∀ wx wy : World, Below wx.heap.size wx wy → wr.heap.size < wx.heap.size → (wx.cell? ⟨wr.heap.size, 0, none⟩ = some (.string fn) ∧ wx.cell? ⟨wr.heap.size, 1, none⟩ = some (.string ft) ∧ wx.cell? ⟨wr.heap.size, 2, none⟩ = some (.int .i64 fk)) → wy.cell? ⟨wr.heap.size, 0, none⟩ = some (.string fn) ∧ wy.cell? ⟨wr.heap.size, 1, none⟩ = some (.string ft) ∧ wy.cell? ⟨wr.heap.size, 2, none⟩ = some (.int .i64 fk)) := fun wx wy hb hl hc => by
              rw [hb.cell (p := ⟨wr.heap.size, 0, none⟩) hl, hb.cell (p := ⟨wr.heap.size, 1, none⟩) hl, hb.cell (p := ⟨wr.heap.size, 2, none⟩) hl]
              exact hc
            refine wp_region_held_drew (S := fun w' => w'.cell? ⟨wr.heap.size, 0, none⟩ = some (.string fn) ∧ w'.cell? ⟨wr.heap.size, 1, none⟩ = some (.string ft) ∧ w'.cell? ⟨wr.heap.size, 2, none⟩ = some (.int .i64 fk)) (by kernel_rfl) (⟨s0, s1, s2⟩) (fun hHeld => ?_)
            obtain ⟨w4, hw4⟩ : ∃ w4, w4 = W3.drew := ⟨_, rfl⟩
            rw [← hw4] at hHeld ⊢
            have hB4 : Below wr.heap.size wr w4 := by rw [hw4]; exact hB3.drew
            have hw4s : wr.heap.size + 1 ≤ w4.heap.size := by rw [hw4]; show wr.heap.size + 1 ≤ W3.heap.size; omega
            have hov4 : w4.heap[w1.heap.size]? = some (.cells #[ov] 26 (0, 0)) := by rw [hw4]; exact hov3
            have k4 := cell_of_row w4 w1.heap.size 0 _ _ (0, 0) hov4
            simp only [List.getElem?_toArray, List.getElem?_cons_zero] at k4
            have k5 : ∀ o, (w4.alloc o).cell? ⟨w1.heap.size, 0, none⟩ = some ov := fun o => (World.cell?_alloc_lt _ _ _ (by show w1.heap.size < _; omega)).trans k4
            have HOV4 := hide hov4
            clear hov4 hw4 hov3 s0 s1 s2
            refine takeVal 0 (some 49) ?_ rfl (by kernel_rfl) (by kernel_rfl) (by kernel_rfl) rfl (fun _ _ _ h => h) (by rfl) (by assumption) ?_ ?_
            rotate_left
            · (intro w hSw; (try dsimp only at hSw); go_simp <;> with_reducible rfl)
            simp only [Act.put, List.setIfInBounds_toArray, List.set_cons_zero, List.set_cons_succ]
            refine takeVal 2 (some 51) ?_ rfl (by kernel_rfl) (by kernel_rfl) (by kernel_rfl) rfl (fun _ _ _ h => h) (by rfl) (by assumption) ?_ ?_
            rotate_left
            · (intro w hSw; (try dsimp only at hSw); go_simp <;> with_reducible rfl)
            simp only [Act.put, List.setIfInBounds_toArray, List.set_cons_zero, List.set_cons_succ]
            refine takeVal 3 (some 52) ?_ rfl (by kernel_rfl) (by kernel_rfl) (by kernel_rfl) rfl (fun _ _ _ h => h) (by rfl) (by assumption) ?_ ?_
            rotate_left
            · (intro w hSw; (try dsimp only at hSw); go_simp <;> with_reducible rfl)
            simp only [Act.put, List.setIfInBounds_toArray, List.set_cons_zero, List.set_cons_succ]
            refine takeVal 4 (some 53) ?_ rfl (by kernel_rfl) (by kernel_rfl) (by kernel_rfl) rfl (fun _ _ _ h => h) (by rfl) (by assumption) ?_ ?_
            rotate_left
            · (intro w hSw; (try dsimp only at hSw); go_simp <;> with_reducible rfl)
            simp only [Act.put, List.setIfInBounds_toArray, List.set_cons_zero, List.set_cons_succ]
            refine takeVal 5 (some 54) ?_ rfl (by kernel_rfl) (by kernel_rfl) (by kernel_rfl) rfl (fun _ _ _ h => h) (by rfl) (by assumption) ?_ ?_
            rotate_left
            · (intro w hSw; (try dsimp only at hSw); go_simp <;> with_reducible rfl)
            simp only [Act.put, List.setIfInBounds_toArray, List.set_cons_zero, List.set_cons_succ]
            refine takeVal 6 (some 55) ?_ rfl (by kernel_rfl) (by kernel_rfl) (by kernel_rfl) rfl (fun _ _ _ h => h) (by rfl) (by assumption) ?_ ?_
            rotate_left
            · (intro w hSw; (try dsimp only at hSw); go_simp <;> with_reducible rfl)
            simp only [Act.put, List.setIfInBounds_toArray, List.set_cons_zero, List.set_cons_succ]
            refine takeVal 7 (some 56) ?_ rfl (by kernel_rfl) (by kernel_rfl) (by kernel_rfl) rfl (fun _ _ _ h => h) (by rfl) (by assumption) ?_ ?_
            rotate_left
            · (intro w hSw; (try dsimp only at hSw); go_simp <;> with_reducible rfl)
            simp only [Act.put, List.setIfInBounds_toArray, List.set_cons_zero, List.set_cons_succ]
            rw [← unhide HTT]
            refine takeVal 8 (some 57) ?_ rfl (by kernel_rfl) (by kernel_rfl) (by kernel_rfl) rfl (fun _ _ _ h => h) (by rfl) (by assumption) ?_ ?_
            rotate_left
            · (intro w hSw; (try dsimp only at hSw); go_simp <;> with_reducible rfl)
            simp only [Act.put, List.setIfInBounds_toArray, List.set_cons_zero, List.set_cons_succ]
            refine takeVal 9 (some 58) ?_ rfl (by kernel_rfl) (by kernel_rfl) (by kernel_rfl) rfl (fun _ _ _ h => h) (by rfl) (by assumption) ?_ ?_
            rotate_left
            · (intro w hSw; (try dsimp only at hSw); go_simp <;> with_reducible rfl)
            simp only [Act.put, List.setIfInBounds_toArray, List.set_cons_zero, List.set_cons_succ]
            refine wpAnyH_ready (rs := [1, 10]) (by kernel_rfl) (by simp) ?_
            refine (AllReadyH.cons rfl (fun K hK => ?_) (AllReadyH.cons rfl (fun K hK => ?_) AllReadyH.nil))
            · go_simp
              refine hK.out _ _ (hHeld) (fun hHeld2 => ?_)
              clear hK K hHeld
              have hHeld := hHeld2; clear hHeld2
              try simp only [Act.put, List.setIfInBounds_toArray, List.set_cons_zero, List.set_cons_succ]
              refine wpAnyH_ready (rs := [10]) (by kernel_rfl) (by simp) ?_
              refine (AllReadyH.cons rfl (fun K hK => ?_) AllReadyH.nil)
              go_simp
              refine hK.out _ _ (unhide keepf _ _ ((Below.refl w4.heap.size w4).alloc (Nat.le_refl _) _) (by omega) hHeld) (fun hHeld2 => ?_)
              clear hK K hHeld
              have hHeld := hHeld2; clear hHeld2
              try simp only [Act.put, List.setIfInBounds_toArray, List.set_cons_zero, List.set_cons_succ]
              refine wpAnyH_ready (rs := [11]) (by kernel_rfl) (by simp) ?_
              refine (AllReadyH.cons rfl (fun K hK => ?_) AllReadyH.nil)
              rw [if_pos (by rfl)]
              have own5 : (w4.alloc (.cells #[.string fn, .string T, .int .i64 N] 55)).ownsRow W2.heap.size 55 3 ov k (fcs (loseTo l left k)) := by have := own_stays (unhide HOW) (hB4.alloc (by omega) (.cells #[.string fn, .string T, .int .i64 N] 55)); rwa [loseTo_length] at this
              refine wp_append_own _ (.tmp 50) (.tmp 59) 24 rfl W2.heap.size 55 i0 _ 3 40 Try.underlying24 hi hz0 hz1 hz2 rfl (by decide) ov k (fcs (loseTo l left k)) rfl own5 ⟨w4.heap.size, 0, none⟩ 1 1 (fc ⟨fn, T, N⟩) rfl rfl (news3 w4 fn T N) (one3 fn T N) (by unfold maxLen; omega) (by omega) (by simp; omega) ?_
              intro v' w5 hown5 hgr5 hnil5
              have ne5 : ov.ownBlock ≠ some w1.heap.size := fun e => by have := unhide HNB _ e; omega
              have nf5 : ov.ownBlock ≠ some wr.heap.size := fun e => by have := unhide HNB _ e; omega
              have hov5 : w5.heap[w1.heap.size]? = some (.cells #[ov] 26 (0, 0)) := (hgr5.block _ (by simp; omega) (Ne.symm ne5)).trans ((Below.heap_alloc _ _ _ (by omega)).trans (unhide HOV4))
              have hsz5 : w4.heap.size + 1 ≤ w5.heap.size := by have := hgr5.size; simpa using this
              refine hK.out _ _ (by rw [World.cell?_of_block (w := w4.alloc _) (a := ⟨wr.heap.size, 0, none⟩) (hgr5.block _ (by simp; omega) (Ne.symm nf5)), World.cell?_of_block (w := w4.alloc _) (a := ⟨wr.heap.size, 1, none⟩) (hgr5.block _ (by simp; omega) (Ne.symm nf5)), World.cell?_of_block (w := w4.alloc _) (a := ⟨wr.heap.size, 2, none⟩) (hgr5.block _ (by simp; omega) (Ne.symm nf5))]; exact hHeld) (fun hHeld2 => ?_)
              clear hK K hHeld
              have hHeld := hHeld2; clear hHeld2
              try simp only [Act.put, List.setIfInBounds_toArray, List.set_cons_zero, List.set_cons_succ]
              have k6 := cell_of_row w5 w1.heap.size 0 _ _ (0, 0) hov5
              have z6 := frozen_of_row w5 w1.heap.size 0 _ _ hov5
              simp only [List.getElem?_toArray, List.getElem?_cons_zero] at k6
              obtain ⟨va, vn, vc, hv'⟩ : ∃ a n c, v' = .slice a n c := by rcases hown5.2 with ⟨h, _⟩ | ⟨_, _, _, h, _⟩ <;> exact ⟨_, _, _, h⟩
              subst hv'
              have HST := hide (set1 (.slice va vn vc) hov5)
              have HO5 := hide (ownsRow_setCell_below hown5 (a := ⟨w1.heap.size, 0, none⟩) (by show w1.heap.size < _; omega) (.slice va vn vc))
              have HG5 := hide (chain (v' := .slice va vn vc) hgr hB4 hgr5 (fun b hb => (unhide HNB b hb).1))
              clear hown5 hgr5 hnil5 hov5 own5
              refine takeVal 12 (some 61) ?_ rfl (by kernel_rfl) (by kernel_rfl) (by kernel_rfl) rfl (fun _ _ _ h => h) (by rfl) (by assumption) ?_ ?_
              rotate_left
              · (intro w hSw; (try dsimp only at hSw); go_simp <;> with_reducible rfl)
              simp only [Act.put, List.setIfInBounds_toArray, List.set_cons_zero, List.set_cons_succ]
              refine wpAnyH_ready (rs := [13]) (by kernel_rfl) (by simp) ?_
              refine (AllReadyH.cons rfl (fun K hK => ?_) AllReadyH.nil)
              go_simp
              refine hK.out _ _ (by refine ⟨?_, ?_, ?_⟩ <;> (rw [World.cell?_setCell_other _ _ _ _ (by simp <;> omega)]; first | exact hHeld.1 | exact hHeld.2.1 | exact hHeld.2.2)) (fun hHeld2 => ?_)
              clear hK K hHeld
              have hHeld := hHeld2; clear hHeld2
              try simp only [Act.put, List.setIfInBounds_toArray, List.set_cons_zero, List.set_cons_succ]
              refine wpAnyH_done (by kernel_rfl) ?_ _
              go_wp2
              go_roundw
              case rel => exact ⟨k + 1, .slice va vn vc, by omega, by go_num, unhide HST, by unfold OwnF; rw [unhide HSU, loseTo_snoc, fcs_append, fcs_one]; exact unhide HO5, unhide HG5⟩
              case measure => simp [intOf]; omega
            · go_simp
              refine hK.out _ _ (unhide keepf _ _ ((Below.refl w4.heap.size w4).alloc (Nat.le_refl _) _) (by omega) hHeld) (fun hHeld2 => ?_)
              clear hK K hHeld
              have hHeld := hHeld2; clear hHeld2
              try simp only [Act.put, List.setIfInBounds_toArray, List.set_cons_zero, List.set_cons_succ]
              refine wpAnyH_ready (rs := [1]) (by kernel_rfl) (by simp) ?_
              refine (AllReadyH.cons rfl (fun K hK => ?_) AllReadyH.nil)
              go_simp
              refine hK.out _ _ (hHeld) (fun hHeld2 => ?_)
              clear hK K hHeld
              have hHeld := hHeld2; clear hHeld2
              try simp only [Act.put, List.setIfInBounds_toArray, List.set_cons_zero, List.set_cons_succ]
              refine wpAnyH_ready (rs := [11]) (by kernel_rfl) (by simp) ?_
              refine (AllReadyH.cons rfl (fun K hK => ?_) AllReadyH.nil)
              rw [if_pos (by rfl)]
              have own5 : (w4.alloc (.cells #[.string fn, .string T, .int .i64 N] 55)).ownsRow W2.heap.size 55 3 ov k (fcs (loseTo l left k)) := by have := own_stays (unhide HOW) (hB4.alloc (by omega) (.cells #[.string fn, .string T, .int .i64 N] 55)); rwa [loseTo_length] at this
              refine wp_append_own _ (.tmp 50) (.tmp 59) 24 rfl W2.heap.size 55 i0 _ 3 40 Try.underlying24 hi hz0 hz1 hz2 rfl (by decide) ov k (fcs (loseTo l left k)) rfl own5 ⟨w4.heap.size, 0, none⟩ 1 1 (fc ⟨fn, T, N⟩) rfl rfl (news3 w4 fn T N) (one3 fn T N) (by unfold maxLen; omega) (by omega) (by simp; omega) ?_
              intro v' w5 hown5 hgr5 hnil5
              have ne5 : ov.ownBlock ≠ some w1.heap.size := fun e => by have := unhide HNB _ e; omega
              have nf5 : ov.ownBlock ≠ some wr.heap.size := fun e => by have := unhide HNB _ e; omega
              have hov5 : w5.heap[w1.heap.size]? = some (.cells #[ov] 26 (0, 0)) := (hgr5.block _ (by simp; omega) (Ne.symm ne5)).trans ((Below.heap_alloc _ _ _ (by omega)).trans (unhide HOV4))
              have hsz5 : w4.heap.size + 1 ≤ w5.heap.size := by have := hgr5.size; simpa using this
              refine hK.out _ _ (by rw [World.cell?_of_block (w := w4.alloc _) (a := ⟨wr.heap.size, 0, none⟩) (hgr5.block _ (by simp; omega) (Ne.symm nf5)), World.cell?_of_block (w := w4.alloc _) (a := ⟨wr.heap.size, 1, none⟩) (hgr5.block _ (by simp; omega) (Ne.symm nf5)), World.cell?_of_block (w := w4.alloc _) (a := ⟨wr.heap.size, 2, none⟩) (hgr5.block _ (by simp; omega) (Ne.symm nf5))]; exact hHeld) (fun hHeld2 => ?_)
              clear hK K hHeld
              have hHeld := hHeld2; clear hHeld2
              try simp only [Act.put, List.setIfInBounds_toArray, List.set_cons_zero, List.set_cons_succ]
              have k6 := cell_of_row w5 w1.heap.size 0 _ _ (0, 0) hov5
              have z6 := frozen_of_row w5 w1.heap.size 0 _ _ hov5
              simp only [List.getElem?_toArray, List.getElem?_cons_zero] at k6
              obtain ⟨va, vn, vc, hv'⟩ : ∃ a n c, v' = .slice a n c := by rcases hown5.2 with ⟨h, _⟩ | ⟨_, _, _, h, _⟩ <;> exact ⟨_, _, _, h⟩
              subst hv'
              have HST := hide (set1 (.slice va vn vc) hov5)
              have HO5 := hide (ownsRow_setCell_below hown5 (a := ⟨w1.heap.size, 0, none⟩) (by show w1.heap.size < _; omega) (.slice va vn vc))
              have HG5 := hide (chain (v' := .slice va vn vc) hgr hB4 hgr5 (fun b hb => (unhide HNB b hb).1))
              clear hown5 hgr5 hnil5 hov5 own5
              refine takeVal 12 (some 61) ?_ rfl (by kernel_rfl) (by kernel_rfl) (by kernel_rfl) rfl (fun _ _ _ h => h) (by rfl) (by assumption) ?_ ?_
              rotate_left
              · (intro w hSw; (try dsimp only at hSw); go_simp <;> with_reducible rfl)
              simp only [Act.put, List.setIfInBounds_toArray, List.set_cons_zero, List.set_cons_succ]
              refine wpAnyH_ready (rs := [13]) (by kernel_rfl) (by simp) ?_
              refine (AllReadyH.cons rfl (fun K hK => ?_) AllReadyH.nil)
              go_simp
              refine hK.out _ _ (by refine ⟨?_, ?_, ?_⟩ <;> (rw [World.cell?_setCell_other _ _ _ _ (by simp <;> omega)]; first | exact hHeld.1 | exact hHeld.2.1 | exact hHeld.2.2)) (fun hHeld2 => ?_)
              clear hK K hHeld
              have hHeld := hHeld2; clear hHeld2
              try simp only [Act.put, List.setIfInBounds_toArray, List.set_cons_zero, List.set_cons_succ]
              refine wpAnyH_done (by kernel_rfl) ?_ _
              go_wp2
              go_roundw
              case rel => exact ⟨k + 1, .slice va vn vc, by omega, by go_num, unhide HST, by unfold OwnF; rw [unhide HSU, loseTo_snoc, fcs_append, fcs_one]; exact unhide HO5, unhide HG5⟩
              case measure => simp [intOf]; omega
          · by_cases hc2 : x < fk
            · go_wp2
              have hN : fk = max fk (min x (ft.size : Int)) := by omega
              obtain ⟨T, hT⟩ : ∃ T, T = ft.extract 0 fk.toNat := ⟨_, rfl⟩
              have hNb1 : 0 ≤ fk := by rw [hN]; omega
              have hNb2 : fk ≤ (ft.size : Int) := by rw [hN]; omega
              have HTT := hide hT
              have HLF := hide (show loseF ⟨fn, ft, fk⟩ x = ⟨fn, T, fk⟩ by unfold loseF keepN; simp only; rw [← hN, ← hT])
              rw [unhide HLF] at HSU
              have HNB := hide (fun b (hb : ov.ownBlock = some b) => (show W2.heap.size ≤ b ∧ b < wr.heap.size from (unhide HOW).lt b hb))
              clear hN hT HLF
              obtain ⟨W3, hW3⟩ : ∃ W3, W3 = wr.alloc (.cells #[.string fn, .string ft, .int .i64 fk] 55) := ⟨_, rfl⟩
              have s0 : W3.cell? ⟨wr.heap.size, 0, none⟩ = some (.string fn) := by rw [hW3]; go_simp
              have s1 : W3.cell? ⟨wr.heap.size, 1, none⟩ = some (.string ft) := by rw [hW3]; go_simp
              have s2 : W3.cell? ⟨wr.heap.size, 2, none⟩ = some (.int .i64 fk) := by rw [hW3]; go_simp
              have hB3 : Below wr.heap.size wr W3 := by rw [hW3]; exact (Below.refl _ _).alloc (Nat.le_refl _) _
              have hsz3 : W3.heap.size = wr.heap.size + 1 := by rw [hW3]; simp
              have hov3 : W3.heap[w1.heap.size]? = some (.cells #[ov] 26 (0, 0)) := (hB3.block _ (by omega)).trans (unhide HOV)
              rw [← hW3]
              clear hW3
              have keepf : Hid (∀ wx wy : World, Below wx.heap.size wx wy → wr.heap.size < wx.heap.size → (wx.cell? ⟨wr.heap.size, 0, none⟩ = some (.string fn) ∧ wx.cell? ⟨wr.heap.size, 1, none⟩ = some (.string ft) ∧ wx.cell? ⟨wr.heap.size, 2, none⟩ = some (.int .i64 fk)) → wy.cell? ⟨wr.heap.size, 0, none⟩ = some (.string fn) ∧ wy.cell? ⟨wr.heap.size, 1, none⟩ = some (.string ft) ∧ wy.cell? ⟨wr.heap.size, 2, none⟩ = some (.int .i64 fk)) := fun wx wy hb hl hc => by
                rw [hb.cell (p := ⟨wr.heap.size, 0, none⟩) hl, hb.cell (p := ⟨wr.heap.size, 1, none⟩) hl, hb.cell (p := ⟨wr.heap.size, 2, none⟩) hl]
                exact hc
              refine wp_region_held_drew (S := fun w' => w'.cell? ⟨wr.heap.size, 0, none⟩ = some (.string fn) ∧ w'.cell? ⟨wr.heap.size, 1, none⟩ = some (.string ft) ∧ w'.cell? ⟨wr.heap.size, 2, none⟩ = some (.int .i64 fk)) (by kernel_rfl) (⟨s0, s1, s2⟩) (fun hHeld => ?_)
              obtain ⟨w4, hw4⟩ : ∃ w4, w4 = W3.drew := ⟨_, rfl⟩
              rw [← hw4] at hHeld ⊢
              have hB4 : Below wr.heap.size wr w4 := by rw [hw4]; exact hB3.drew
              have hw4s : wr.heap.size + 1 ≤ w4.heap.size := by rw [hw4]; show wr.heap.size + 1 ≤ W3.heap.size; omega
              have hov4 : w4.heap[w1.heap.size]? = some (.cells #[ov] 26 (0, 0)) := by rw [hw4]; exact hov3
              have k4 := cell_of_row w4 w1.heap.size 0 _ _ (0, 0) hov4
              simp only [List.getElem?_toArray, List.getElem?_cons_zero] at k4
              have k5 : ∀ o, (w4.alloc o).cell? ⟨w1.heap.size, 0, none⟩ = some ov := fun o => (World.cell?_alloc_lt _ _ _ (by show w1.heap.size < _; omega)).trans k4
              have HOV4 := hide hov4
              clear hov4 hw4 hov3 s0 s1 s2
              refine takeVal 0 (some 49) ?_ rfl (by kernel_rfl) (by kernel_rfl) (by kernel_rfl) rfl (fun _ _ _ h => h) (by rfl) (by assumption) ?_ ?_
              rotate_left
              · (intro w hSw; (try dsimp only at hSw); go_simp <;> with_reducible rfl)
              simp only [Act.put, List.setIfInBounds_toArray, List.set_cons_zero, List.set_cons_succ]
              refine takeVal 2 (some 51) ?_ rfl (by kernel_rfl) (by kernel_rfl) (by kernel_rfl) rfl (fun _ _ _ h => h) (by rfl) (by assumption) ?_ ?_
              rotate_left
              · (intro w hSw; (try dsimp only at hSw); go_simp <;> with_reducible rfl)
              simp only [Act.put, List.setIfInBounds_toArray, List.set_cons_zero, List.set_cons_succ]
              refine takeVal 3 (some 52) ?_ rfl (by kernel_rfl) (by kernel_rfl) (by kernel_rfl) rfl (fun _ _ _ h => h) (by rfl) (by assumption) ?_ ?_
              rotate_left
              · (intro w hSw; (try dsimp only at hSw); go_simp <;> with_reducible rfl)
              simp only [Act.put, List.setIfInBounds_toArray, List.set_cons_zero, List.set_cons_succ]
              refine takeVal 4 (some 53) ?_ rfl (by kernel_rfl) (by kernel_rfl) (by kernel_rfl) rfl (fun _ _ _ h => h) (by rfl) (by assumption) ?_ ?_
              rotate_left
              · (intro w hSw; (try dsimp only at hSw); go_simp <;> with_reducible rfl)
              simp only [Act.put, List.setIfInBounds_toArray, List.set_cons_zero, List.set_cons_succ]
              refine takeVal 5 (some 54) ?_ rfl (by kernel_rfl) (by kernel_rfl) (by kernel_rfl) rfl (fun _ _ _ h => h) (by rfl) (by assumption) ?_ ?_
              rotate_left
              · (intro w hSw; (try dsimp only at hSw); go_simp <;> with_reducible rfl)
              simp only [Act.put, List.setIfInBounds_toArray, List.set_cons_zero, List.set_cons_succ]
              refine takeVal 6 (some 55) ?_ rfl (by kernel_rfl) (by kernel_rfl) (by kernel_rfl) rfl (fun _ _ _ h => h) (by rfl) (by assumption) ?_ ?_
              rotate_left
              · (intro w hSw; (try dsimp only at hSw); go_simp <;> with_reducible rfl)
              simp only [Act.put, List.setIfInBounds_toArray, List.set_cons_zero, List.set_cons_succ]
              refine takeVal 7 (some 56) ?_ rfl (by kernel_rfl) (by kernel_rfl) (by kernel_rfl) rfl (fun _ _ _ h => h) (by rfl) (by assumption) ?_ ?_
              rotate_left
              · (intro w hSw; (try dsimp only at hSw); go_simp <;> with_reducible rfl)
              simp only [Act.put, List.setIfInBounds_toArray, List.set_cons_zero, List.set_cons_succ]
              rw [← unhide HTT]
              refine takeVal 8 (some 57) ?_ rfl (by kernel_rfl) (by kernel_rfl) (by kernel_rfl) rfl (fun _ _ _ h => h) (by rfl) (by assumption) ?_ ?_
              rotate_left
              · (intro w hSw; (try dsimp only at hSw); go_simp <;> with_reducible rfl)
              simp only [Act.put, List.setIfInBounds_toArray, List.set_cons_zero, List.set_cons_succ]
              refine takeVal 9 (some 58) ?_ rfl (by kernel_rfl) (by kernel_rfl) (by kernel_rfl) rfl (fun _ _ _ h => h) (by rfl) (by assumption) ?_ ?_
              rotate_left
              · (intro w hSw; (try dsimp only at hSw); go_simp <;> with_reducible rfl)
              simp only [Act.put, List.setIfInBounds_toArray, List.set_cons_zero, List.set_cons_succ]
              refine wpAnyH_ready (rs := [1, 10]) (by kernel_rfl) (by simp) ?_
              refine (AllReadyH.cons rfl (fun K hK => ?_) (AllReadyH.cons rfl (fun K hK => ?_) AllReadyH.nil))
              · go_simp
                refine hK.out _ _ (hHeld) (fun hHeld2 => ?_)
                clear hK K hHeld
                have hHeld := hHeld2; clear hHeld2
                try simp only [Act.put, List.setIfInBounds_toArray, List.set_cons_zero, List.set_cons_succ]
                refine wpAnyH_ready (rs := [10]) (by kernel_rfl) (by simp) ?_
                refine (AllReadyH.cons rfl (fun K hK => ?_) AllReadyH.nil)
                go_simp
                refine hK.out _ _ (unhide keepf _ _ ((Below.refl w4.heap.size w4).alloc (Nat.le_refl _) _) (by omega) hHeld) (fun hHeld2 => ?_)
                clear hK K hHeld
                have hHeld := hHeld2; clear hHeld2
                try simp only [Act.put, List.setIfInBounds_toArray, List.set_cons_zero, List.set_cons_succ]
                refine wpAnyH_ready (rs := [11]) (by kernel_rfl) (by simp) ?_
                refine (AllReadyH.cons rfl (fun K hK => ?_) AllReadyH.nil)
                rw [if_pos (by rfl)]
                have own5 : (w4.alloc (.cells #[.string fn, .string T, .int .i64 fk] 55)).ownsRow W2.heap.size 55 3 ov k (fcs (loseTo l left k)) := by have := own_stays (unhide HOW) (hB4.alloc (by omega) (.cells #[.string fn, .string T, .int .i64 fk] 55)); rwa [loseTo_length] at this
                refine wp_append_own _ (.tmp 50) (.tmp 59) 24 rfl W2.heap.size 55 i0 _ 3 40 Try.underlying24 hi hz0 hz1 hz2 rfl (by decide) ov k (fcs (loseTo l left k)) rfl own5 ⟨w4.heap.size, 0, none⟩ 1 1 (fc ⟨fn, T, fk⟩) rfl rfl (news3 w4 fn T fk) (one3 fn T fk) (by unfold maxLen; omega) (by omega) (by simp; omega) ?_
                intro v' w5 hown5 hgr5 hnil5
                have ne5 : ov.ownBlock ≠ some w1.heap.size := fun e => by have := unhide HNB _ e; omega
                have nf5 : ov.ownBlock ≠ some wr.heap.size := fun e => by have := unhide HNB _ e; omega
                have hov5 : w5.heap[w1.heap.size]? = some (.cells #[ov] 26 (0, 0)) := (hgr5.block _ (by simp; omega) (Ne.symm ne5)).trans ((Below.heap_alloc _ _ _ (by omega)).trans (unhide HOV4))
                have hsz5 : w4.heap.size + 1 ≤ w5.heap.size := by have := hgr5.size; simpa using this
                refine hK.out _ _ (by rw [World.cell?_of_block (w := w4.alloc _) (a := ⟨wr.heap.size, 0, none⟩) (hgr5.block _ (by simp; omega) (Ne.symm nf5)), World.cell?_of_block (w := w4.alloc _) (a := ⟨wr.heap.size, 1, none⟩) (hgr5.block _ (by simp; omega) (Ne.symm nf5)), World.cell?_of_block (w := w4.alloc _) (a := ⟨wr.heap.size, 2, none⟩) (hgr5.block _ (by simp; omega) (Ne.symm nf5))]; exact hHeld) (fun hHeld2 => ?_)
                clear hK K hHeld
                have hHeld := hHeld2; clear hHeld2
                try simp only [Act.put, List.setIfInBounds_toArray, List.set_cons_zero, List.set_cons_succ]
                have k6 := cell_of_row w5 w1.heap.size 0 _ _ (0, 0) hov5
                have z6 := frozen_of_row w5 w1.heap.size 0 _ _ hov5
                simp only [List.getElem?_toArray, List.getElem?_cons_zero] at k6
                obtain ⟨va, vn, vc, hv'⟩ : ∃ a n c, v' = .slice a n c := by rcases hown5.2 with ⟨h, _⟩ | ⟨_, _, _, h, _⟩ <;> exact ⟨_, _, _, h⟩
                subst hv'
                have HST := hide (set1 (.slice va vn vc) hov5)
                have HO5 := hide (ownsRow_setCell_below hown5 (a := ⟨w1.heap.size, 0, none⟩) (by show w1.heap.size < _; omega) (.slice va vn vc))
                have HG5 := hide (chain (v' := .slice va vn vc) hgr hB4 hgr5 (fun b hb => (unhide HNB b hb).1))
                clear hown5 hgr5 hnil5 hov5 own5
                refine takeVal 12 (some 61) ?_ rfl (by kernel_rfl) (by kernel_rfl) (by kernel_rfl) rfl (fun _ _ _ h => h) (by rfl) (by assumption) ?_ ?_
                rotate_left
                · (intro w hSw; (try dsimp only at hSw); go_simp <;> with_reducible rfl)
                simp only [Act.put, List.setIfInBounds_toArray, List.set_cons_zero, List.set_cons_succ]
                refine wpAnyH_ready (rs := [13]) (by kernel_rfl) (by simp) ?_
                refine (AllReadyH.cons rfl (fun K hK => ?_) AllReadyH.nil)
                go_simp
                refine hK.out _ _ (by refine ⟨?_, ?_, ?_⟩ <;> (rw [World.cell?_setCell_other _ _ _ _ (by simp <;> omega)]; first | exact hHeld.1 | exact hHeld.2.1 | exact hHeld.2.2)) (fun hHeld2 => ?_)
                clear hK K hHeld
                have hHeld := hHeld2; clear hHeld2
                try simp only [Act.put, List.setIfInBounds_toArray, List.set_cons_zero, List.set_cons_succ]
                refine wpAnyH_done (by kernel_rfl) ?_ _
                go_wp2
                go_roundw
                case rel => exact ⟨k + 1, .slice va vn vc, by omega, by go_num, unhide HST, by unfold OwnF; rw [unhide HSU, loseTo_snoc, fcs_append, fcs_one]; exact unhide HO5, unhide HG5⟩
                case measure => simp [intOf]; omega
              · go_simp
                refine hK.out _ _ (unhide keepf _ _ ((Below.refl w4.heap.size w4).alloc (Nat.le_refl _) _) (by omega) hHeld) (fun hHeld2 => ?_)
                clear hK K hHeld
                have hHeld := hHeld2; clear hHeld2
                try simp only [Act.put, List.setIfInBounds_toArray, List.set_cons_zero, List.set_cons_succ]
                refine wpAnyH_ready (rs := [1]) (by kernel_rfl) (by simp) ?_
                refine (AllReadyH.cons rfl (fun K hK => ?_) AllReadyH.nil)
                go_simp
                refine hK.out _ _ (hHeld) (fun hHeld2 => ?_)
                clear hK K hHeld
                have hHeld := hHeld2; clear hHeld2
                try simp only [Act.put, List.setIfInBounds_toArray, List.set_cons_zero, List.set_cons_succ]
                refine wpAnyH_ready (rs := [11]) (by kernel_rfl) (by simp) ?_
                refine (AllReadyH.cons rfl (fun K hK => ?_) AllReadyH.nil)
                rw [if_pos (by rfl)]
                have own5 : (w4.alloc (.cells #[.string fn, .string T, .int .i64 fk] 55)).ownsRow W2.heap.size 55 3 ov k (fcs (loseTo l left k)) := by have := own_stays (unhide HOW) (hB4.alloc (by omega) (.cells #[.string fn, .string T, .int .i64 fk] 55)); rwa [loseTo_length] at this
                refine wp_append_own _ (.tmp 50) (.tmp 59) 24 rfl W2.heap.size 55 i0 _ 3 40 Try.underlying24 hi hz0 hz1 hz2 rfl (by decide) ov k (fcs (loseTo l left k)) rfl own5 ⟨w4.heap.size, 0, none⟩ 1 1 (fc ⟨fn, T, fk⟩) rfl rfl (news3 w4 fn T fk) (one3 fn T fk) (by unfold maxLen; omega) (by omega) (by simp; omega) ?_
                intro v' w5 hown5 hgr5 hnil5
                have ne5 : ov.ownBlock ≠ some w1.heap.size := fun e => by have := unhide HNB _ e; omega
                have nf5 : ov.ownBlock ≠ some wr.heap.size := fun e => by have := unhide HNB _ e; omega
                have hov5 : w5.heap[w1.heap.size]? = some (.cells #[ov] 26 (0, 0)) := (hgr5.block _ (by simp; omega) (Ne.symm ne5)).trans ((Below.heap_alloc _ _ _ (by omega)).trans (unhide HOV4))
                have hsz5 : w4.heap.size + 1 ≤ w5.heap.size := by have := hgr5.size; simpa using this
                refine hK.out _ _ (by rw [World.cell?_of_block (w := w4.alloc _) (a := ⟨wr.heap.size, 0, none⟩) (hgr5.block _ (by simp; omega) (Ne.symm nf5)), World.cell?_of_block (w := w4.alloc _) (a := ⟨wr.heap.size, 1, none⟩) (hgr5.block _ (by simp; omega) (Ne.symm nf5)), World.cell?_of_block (w := w4.alloc _) (a := ⟨wr.heap.size, 2, none⟩) (hgr5.block _ (by simp; omega) (Ne.symm nf5))]; exact hHeld) (fun hHeld2 => ?_)
                clear hK K hHeld
                have hHeld := hHeld2; clear hHeld2
                try simp only [Act.put, List.setIfInBounds_toArray, List.set_cons_zero, List.set_cons_succ]
                have k6 := cell_of_row w5 w1.heap.size 0 _ _ (0, 0) hov5
                have z6 := frozen_of_row w5 w1.heap.size 0 _ _ hov5
                simp only [List.getElem?_toArray, List.getElem?_cons_zero] at k6
                obtain ⟨va, vn, vc, hv'⟩ : ∃ a n c, v' = .slice a n c := by rcases hown5.2 with ⟨h, _⟩ | ⟨_, _, _, h, _⟩ <;> exact ⟨_, _, _, h⟩
                subst hv'
                have HST := hide (set1 (.slice va vn vc) hov5)
                have HO5 := hide (ownsRow_setCell_below hown5 (a := ⟨w1.heap.size, 0, none⟩) (by show w1.heap.size < _; omega) (.slice va vn vc))
                have HG5 := hide (chain (v' := .slice va vn vc) hgr hB4 hgr5 (fun b hb => (unhide HNB b hb).1))
                clear hown5 hgr5 hnil5 hov5 own5
                refine takeVal 12 (some 61) ?_ rfl (by kernel_rfl) (by kernel_rfl) (by kernel_rfl) rfl (fun _ _ _ h => h) (by rfl) (by assumption) ?_ ?_
                rotate_left
                · (intro w hSw; (try dsimp only at hSw); go_simp <;> with_reducible rfl)
                simp only [Act.put, List.setIfInBounds_toArray, List.set_cons_zero, List.set_cons_succ]
                refine wpAnyH_ready (rs := [13]) (by kernel_rfl) (by simp) ?_
                refine (AllReadyH.cons rfl (fun K hK => ?_) AllReadyH.nil)
                go_simp
                refine hK.out _ _ (by refine ⟨?_, ?_, ?_⟩ <;> (rw [World.cell?_setCell_other _ _ _ _ (by simp <;> omega)]; first | exact hHeld.1 | exact hHeld.2.1 | exact hHeld.2.2)) (fun hHeld2 => ?_)
                clear hK K hHeld
                have hHeld := hHeld2; clear hHeld2
                try simp only [Act.put, List.setIfInBounds_toArray, List.set_cons_zero, List.set_cons_succ]
                refine wpAnyH_done (by kernel_rfl) ?_ _
                go_wp2
                go_roundw
                case rel => exact ⟨k + 1, .slice va vn vc, by omega, by go_num, unhide HST, by unfold OwnF; rw [unhide HSU, loseTo_snoc, fcs_append, fcs_one]; exact unhide HO5, unhide HG5⟩
                case measure => simp [intOf]; omega
            · go_wp2
              obtain ⟨N, hNv⟩ : ∃ N, N = x := ⟨_, rfl⟩
              have hN : N = max fk (min x (ft.size : Int)) := by rw [hNv]; omega
              obtain ⟨T, hT⟩ : ∃ T, T = ft.extract 0 N.toNat := ⟨_, rfl⟩
              have hNb1 : 0 ≤ N := by rw [hN]; omega
              have hNb2 : N ≤ (ft.size : Int) := by rw [hN]; omega
              have HTT := hide hT
              have HLF := hide (show loseF ⟨fn, ft, fk⟩ x = ⟨fn, T, N⟩ by unfold loseF keepN; simp only; rw [← hN, ← hT])
              rw [unhide HLF] at HSU
              rw [← hNv]
              have HNB := hide (fun b (hb : ov.ownBlock = some b) => (show W2.heap.size ≤ b ∧ b < wr.heap.size from (unhide HOW).lt b hb))
              clear hN hT HLF hNv
              obtain ⟨W3, hW3⟩ : ∃ W3, W3 = wr.alloc (.cells #[.string fn, .string ft, .int .i64 fk] 55) := ⟨_, rfl⟩
              have s0 : W3.cell? ⟨wr.heap.size, 0, none⟩ = some (.string fn) := by rw [hW3]; go_simp
              have s1 : W3.cell? ⟨wr.heap.size, 1, none⟩ = some (.string ft) := by rw [hW3]; go_simp
              have s2 : W3.cell? ⟨wr.heap.size, 2, none⟩ = some (.int .i64 fk) := by rw [hW3]; go_simp
              have hB3 : Below wr.heap.size wr W3 := by rw [hW3]; exact (Below.refl _ _).alloc (Nat.le_refl _) _
              have hsz3 : W3.heap.size = wr.heap.size + 1 := by rw [hW3]; simp
              have hov3 : W3.heap[w1.heap.size]? = some (.cells #[ov] 26 (0, 0)) := (hB3.block _ (by omega)).trans (unhide HOV)
              rw [← hW3]
              clear hW3
              have keepf : Hid (∀ wx wy : World, Below wx.heap.size wx wy → wr.heap.size < wx.heap.size → (wx.cell? ⟨wr.heap.size, 0, none⟩ = some (.string fn) ∧ wx.cell? ⟨wr.heap.size, 1, none⟩ = some (.string ft) ∧ wx.cell? ⟨wr.heap.size, 2, none⟩ = some (.int .i64 fk)) → wy.cell? ⟨wr.heap.size, 0, none⟩ = some (.string fn) ∧ wy.cell? ⟨wr.heap.size, 1, none⟩ = some (.string ft) ∧ wy.cell? ⟨wr.heap.size, 2, none⟩ = some (.int .i64 fk)) := fun wx wy hb hl hc => by
                rw [hb.cell (p := ⟨wr.heap.size, 0, none⟩) hl, hb.cell (p := ⟨wr.heap.size, 1, none⟩) hl, hb.cell (p := ⟨wr.heap.size, 2, none⟩) hl]
                exact hc
              refine wp_region_held_drew (S := fun w' => w'.cell? ⟨wr.heap.size, 0, none⟩ = some (.string fn) ∧ w'.cell? ⟨wr.heap.size, 1, none⟩ = some (.string ft) ∧ w'.cell? ⟨wr.heap.size, 2, none⟩ = some (.int .i64 fk)) (by kernel_rfl) (⟨s0, s1, s2⟩) (fun hHeld => ?_)
              obtain ⟨w4, hw4⟩ : ∃ w4, w4 = W3.drew := ⟨_, rfl⟩
              rw [← hw4] at hHeld ⊢
              have hB4 : Below wr.heap.size wr w4 := by rw [hw4]; exact hB3.drew
              have hw4s : wr.heap.size + 1 ≤ w4.heap.size := by rw [hw4]; show wr.heap.size + 1 ≤ W3.heap.size; omega
              have hov4 : w4.heap[w1.heap.size]? = some (.cells #[ov] 26 (0, 0)) := by rw [hw4]; exact hov3
              have k4 := cell_of_row w4 w1.heap.size 0 _ _ (0, 0) hov4
              simp only [List.getElem?_toArray, List.getElem?_cons_zero] at k4
              have k5 : ∀ o, (w4.alloc o).cell? ⟨w1.heap.size, 0, none⟩ = some ov := fun o => (World.cell?_alloc_lt _ _ _ (by show w1.heap.size < _; omega)).trans k4
              have HOV4 := hide hov4
              clear hov4 hw4 hov3 s0 s1 s2
              refine takeVal 0 (some 49) ?_ rfl (by kernel_rfl) (by kernel_rfl) (by kernel_rfl) rfl (fun _ _ _ h => h) (by rfl) (by assumption) ?_ ?_
              rotate_left
              · (intro w hSw; (try dsimp only at hSw); go_simp <;> with_reducible rfl)
              simp only [Act.put, List.setIfInBounds_toArray, List.set_cons_zero, List.set_cons_succ]
              refine takeVal 2 (some 51) ?_ rfl (by kernel_rfl) (by kernel_rfl) (by kernel_rfl) rfl (fun _ _ _ h => h) (by rfl) (by assumption) ?_ ?_
              rotate_left
              · (intro w hSw; (try dsimp only at hSw); go_simp <;> with_reducible rfl)
              simp only [Act.put, List.setIfInBounds_toArray, List.set_cons_zero, List.set_cons_succ]
              refine takeVal 3 (some 52) ?_ rfl (by kernel_rfl) (by kernel_rfl) (by kernel_rfl) rfl (fun _ _ _ h => h) (by rfl) (by assumption) ?_ ?_
              rotate_left
              · (intro w hSw; (try dsimp only at hSw); go_simp <;> with_reducible rfl)
              simp only [Act.put, List.setIfInBounds_toArray, List.set_cons_zero, List.set_cons_succ]
              refine takeVal 4 (some 53) ?_ rfl (by kernel_rfl) (by kernel_rfl) (by kernel_rfl) rfl (fun _ _ _ h => h) (by rfl) (by assumption) ?_ ?_
              rotate_left
              · (intro w hSw; (try dsimp only at hSw); go_simp <;> with_reducible rfl)
              simp only [Act.put, List.setIfInBounds_toArray, List.set_cons_zero, List.set_cons_succ]
              refine takeVal 5 (some 54) ?_ rfl (by kernel_rfl) (by kernel_rfl) (by kernel_rfl) rfl (fun _ _ _ h => h) (by rfl) (by assumption) ?_ ?_
              rotate_left
              · (intro w hSw; (try dsimp only at hSw); go_simp <;> with_reducible rfl)
              simp only [Act.put, List.setIfInBounds_toArray, List.set_cons_zero, List.set_cons_succ]
              refine takeVal 6 (some 55) ?_ rfl (by kernel_rfl) (by kernel_rfl) (by kernel_rfl) rfl (fun _ _ _ h => h) (by rfl) (by assumption) ?_ ?_
              rotate_left
              · (intro w hSw; (try dsimp only at hSw); go_simp <;> with_reducible rfl)
              simp only [Act.put, List.setIfInBounds_toArray, List.set_cons_zero, List.set_cons_succ]
              refine takeVal 7 (some 56) ?_ rfl (by kernel_rfl) (by kernel_rfl) (by kernel_rfl) rfl (fun _ _ _ h => h) (by rfl) (by assumption) ?_ ?_
              rotate_left
              · (intro w hSw; (try dsimp only at hSw); go_simp <;> with_reducible rfl)
              simp only [Act.put, List.setIfInBounds_toArray, List.set_cons_zero, List.set_cons_succ]
              rw [← unhide HTT]
              refine takeVal 8 (some 57) ?_ rfl (by kernel_rfl) (by kernel_rfl) (by kernel_rfl) rfl (fun _ _ _ h => h) (by rfl) (by assumption) ?_ ?_
              rotate_left
              · (intro w hSw; (try dsimp only at hSw); go_simp <;> with_reducible rfl)
              simp only [Act.put, List.setIfInBounds_toArray, List.set_cons_zero, List.set_cons_succ]
              refine takeVal 9 (some 58) ?_ rfl (by kernel_rfl) (by kernel_rfl) (by kernel_rfl) rfl (fun _ _ _ h => h) (by rfl) (by assumption) ?_ ?_
              rotate_left
              · (intro w hSw; (try dsimp only at hSw); go_simp <;> with_reducible rfl)
              simp only [Act.put, List.setIfInBounds_toArray, List.set_cons_zero, List.set_cons_succ]
              refine wpAnyH_ready (rs := [1, 10]) (by kernel_rfl) (by simp) ?_
              refine (AllReadyH.cons rfl (fun K hK => ?_) (AllReadyH.cons rfl (fun K hK => ?_) AllReadyH.nil))
              · go_simp
                refine hK.out _ _ (hHeld) (fun hHeld2 => ?_)
                clear hK K hHeld
                have hHeld := hHeld2; clear hHeld2
                try simp only [Act.put, List.setIfInBounds_toArray, List.set_cons_zero, List.set_cons_succ]
                refine wpAnyH_ready (rs := [10]) (by kernel_rfl) (by simp) ?_
                refine (AllReadyH.cons rfl (fun K hK => ?_) AllReadyH.nil)
                go_simp
                refine hK.out _ _ (unhide keepf _ _ ((Below.refl w4.heap.size w4).alloc (Nat.le_refl _) _) (by omega) hHeld) (fun hHeld2 => ?_)
                clear hK K hHeld
                have hHeld := hHeld2; clear hHeld2
                try simp only [Act.put, List.setIfInBounds_toArray, List.set_cons_zero, List.set_cons_succ]
                refine wpAnyH_ready (rs := [11]) (by kernel_rfl) (by simp) ?_
                refine (AllReadyH.cons rfl (fun K hK => ?_) AllReadyH.nil)
                rw [if_pos (by rfl)]
                have own5 : (w4.alloc (.cells #[.string fn, .string T, .int .i64 N] 55)).ownsRow W2.heap.size 55 3 ov k (fcs (loseTo l left k)) := by have := own_stays (unhide HOW) (hB4.alloc (by omega) (.cells #[.string fn, .string T, .int .i64 N] 55)); rwa [loseTo_length] at this
                refine wp_append_own _ (.tmp 50) (.tmp 59) 24 rfl W2.heap.size 55 i0 _ 3 40 Try.underlying24 hi hz0 hz1 hz2 rfl (by decide) ov k (fcs (loseTo l left k)) rfl own5 ⟨w4.heap.size, 0, none⟩ 1 1 (fc ⟨fn, T, N⟩) rfl rfl (news3 w4 fn T N) (one3 fn T N) (by unfold maxLen; omega) (by omega) (by simp; omega) ?_
                intro v' w5 hown5 hgr5 hnil5
                have ne5 : ov.ownBlock ≠ some w1.heap.size := fun e => by have := unhide HNB _ e; omega
                have nf5 : ov.ownBlock ≠ some wr.heap.size := fun e => by have := unhide HNB _ e; omega
                have hov5 : w5.heap[w1.heap.size]? = some (.cells #[ov] 26 (0, 0)) := (hgr5.block _ (by simp; omega) (Ne.symm ne5)).trans ((Below.heap_alloc _ _ _ (by omega)).trans (unhide HOV4))
                have hsz5 : w4.heap.size + 1 ≤ w5.heap.size := by have := hgr5.size; simpa using this
                refine hK.out _ _ (by rw [World.cell?_of_block (w := w4.alloc _) (a := ⟨wr.heap.size, 0, none⟩) (hgr5.block _ (by simp; omega) (Ne.symm nf5)), World.cell?_of_block (w := w4.alloc _) (a := ⟨wr.heap.size, 1, none⟩) (hgr5.block _ (by simp; omega) (Ne.symm nf5)), World.cell?_of_block (w := w4.alloc _) (a := ⟨wr.heap.size, 2, none⟩) (hgr5.block _ (by simp; omega) (Ne.symm nf5))]; exact hHeld) (fun hHeld2 => ?_)
                clear hK K hHeld
                have hHeld := hHeld2; clear hHeld2
                try simp only [Act.put, List.setIfInBounds_toArray, List.set_cons_zero, List.set_cons_succ]
                have k6 := cell_of_row w5 w1.heap.size 0 _ _ (0, 0) hov5
                have z6 := frozen_of_row w5 w1.heap.size 0 _ _ hov5
                simp only [List.getElem?_toArray, List.getElem?_cons_zero] at k6
                obtain ⟨va, vn, vc, hv'⟩ : ∃ a n c, v' = .slice a n c := by rcases hown5.2 with ⟨h, _⟩ | ⟨_, _, _, h, _⟩ <;> exact ⟨_, _, _, h⟩
                subst hv'
                have HST := hide (set1 (.slice va vn vc) hov5)
                have HO5 := hide (ownsRow_setCell_below hown5 (a := ⟨w1.heap.size, 0, none⟩) (by show w1.heap.size < _; omega) (.slice va vn vc))
                have HG5 := hide (chain (v' := .slice va vn vc) hgr hB4 hgr5 (fun b hb => (unhide HNB b hb).1))
                clear hown5 hgr5 hnil5 hov5 own5
                refine takeVal 12 (some 61) ?_ rfl (by kernel_rfl) (by kernel_rfl) (by kernel_rfl) rfl (fun _ _ _ h => h) (by rfl) (by assumption) ?_ ?_
                rotate_left
                · (intro w hSw; (try dsimp only at hSw); go_simp <;> with_reducible rfl)
                simp only [Act.put, List.setIfInBounds_toArray, List.set_cons_zero, List.set_cons_succ]
                refine wpAnyH_ready (rs := [13]) (by kernel_rfl) (by simp) ?_
                refine (AllReadyH.cons rfl (fun K hK => ?_) AllReadyH.nil)
                go_simp
                refine hK.out _ _ (by refine ⟨?_, ?_, ?_⟩ <;> (rw [World.cell?_setCell_other _ _ _ _ (by simp <;> omega)]; first | exact hHeld.1 | exact hHeld.2.1 | exact hHeld.2.2)) (fun hHeld2 => ?_)
                clear hK K hHeld
                have hHeld := hHeld2; clear hHeld2
                try simp only [Act.put, List.setIfInBounds_toArray, List.set_cons_zero, List.set_cons_succ]
                refine wpAnyH_done (by kernel_rfl) ?_ _
                go_wp2
                go_roundw
                case rel => exact ⟨k + 1, .slice va vn vc, by omega, by go_num, unhide HST, by unfold OwnF; rw [unhide HSU, loseTo_snoc, fcs_append, fcs_one]; exact unhide HO5, unhide HG5⟩
                case measure => simp [intOf]; omega
              · go_simp
                refine hK.out _ _ (unhide keepf _ _ ((Below.refl w4.heap.size w4).alloc (Nat.le_refl _) _) (by omega) hHeld) (fun hHeld2 => ?_)
                clear hK K hHeld
                have hHeld := hHeld2; clear hHeld2
                try simp only [Act.put, List.setIfInBounds_toArray, List.set_cons_zero, List.set_cons_succ]
                refine wpAnyH_ready (rs := [1]) (by kernel_rfl) (by simp) ?_
                refine (AllReadyH.cons rfl (fun K hK => ?_) AllReadyH.nil)
                go_simp
                refine hK.out _ _ (hHeld) (fun hHeld2 => ?_)
                clear hK K hHeld
                have hHeld := hHeld2; clear hHeld2
                try simp only [Act.put, List.setIfInBounds_toArray, List.set_cons_zero, List.set_cons_succ]
                refine wpAnyH_ready (rs := [11]) (by kernel_rfl) (by simp) ?_
                refine (AllReadyH.cons rfl (fun K hK => ?_) AllReadyH.nil)
                rw [if_pos (by rfl)]
                have own5 : (w4.alloc (.cells #[.string fn, .string T, .int .i64 N] 55)).ownsRow W2.heap.size 55 3 ov k (fcs (loseTo l left k)) := by have := own_stays (unhide HOW) (hB4.alloc (by omega) (.cells #[.string fn, .string T, .int .i64 N] 55)); rwa [loseTo_length] at this
                refine wp_append_own _ (.tmp 50) (.tmp 59) 24 rfl W2.heap.size 55 i0 _ 3 40 Try.underlying24 hi hz0 hz1 hz2 rfl (by decide) ov k (fcs (loseTo l left k)) rfl own5 ⟨w4.heap.size, 0, none⟩ 1 1 (fc ⟨fn, T, N⟩) rfl rfl (news3 w4 fn T N) (one3 fn T N) (by unfold maxLen; omega) (by omega) (by simp; omega) ?_
                intro v' w5 hown5 hgr5 hnil5
                have ne5 : ov.ownBlock ≠ some w1.heap.size := fun e => by have := unhide HNB _ e; omega
                have nf5 : ov.ownBlock ≠ some wr.heap.size := fun e => by have := unhide HNB _ e; omega
                have hov5 : w5.heap[w1.heap.size]? = some (.cells #[ov] 26 (0, 0)) := (hgr5.block _ (by simp; omega) (Ne.symm ne5)).trans ((Below.heap_alloc _ _ _ (by omega)).trans (unhide HOV4))
                have hsz5 : w4.heap.size + 1 ≤ w5.heap.size := by have := hgr5.size; simpa using this
                refine hK.out _ _ (by rw [World.cell?_of_block (w := w4.alloc _) (a := ⟨wr.heap.size, 0, none⟩) (hgr5.block _ (by simp; omega) (Ne.symm nf5)), World.cell?_of_block (w := w4.alloc _) (a := ⟨wr.heap.size, 1, none⟩) (hgr5.block _ (by simp; omega) (Ne.symm nf5)), World.cell?_of_block (w := w4.alloc _) (a := ⟨wr.heap.size, 2, none⟩) (hgr5.block _ (by simp; omega) (Ne.symm nf5))]; exact hHeld) (fun hHeld2 => ?_)
                clear hK K hHeld
                have hHeld := hHeld2; clear hHeld2
                try simp only [Act.put, List.setIfInBounds_toArray, List.set_cons_zero, List.set_cons_succ]
                have k6 := cell_of_row w5 w1.heap.size 0 _ _ (0, 0) hov5
                have z6 := frozen_of_row w5 w1.heap.size 0 _ _ hov5
                simp only [List.getElem?_toArray, List.getElem?_cons_zero] at k6
                obtain ⟨va, vn, vc, hv'⟩ : ∃ a n c, v' = .slice a n c := by rcases hown5.2 with ⟨h, _⟩ | ⟨_, _, _, h, _⟩ <;> exact ⟨_, _, _, h⟩
                subst hv'
                have HST := hide (set1 (.slice va vn vc) hov5)
                have HO5 := hide (ownsRow_setCell_below hown5 (a := ⟨w1.heap.size, 0, none⟩) (by show w1.heap.size < _; omega) (.slice va vn vc))
                have HG5 := hide (chain (v' := .slice va vn vc) hgr hB4 hgr5 (fun b hb => (unhide HNB b hb).1))
                clear hown5 hgr5 hnil5 hov5 own5
                refine takeVal 12 (some 61) ?_ rfl (by kernel_rfl) (by kernel_rfl) (by kernel_rfl) rfl (fun _ _ _ h => h) (by rfl) (by assumption) ?_ ?_
                rotate_left
                · (intro w hSw; (try dsimp only at hSw); go_simp <;> with_reducible rfl)
                simp only [Act.put, List.setIfInBounds_toArray, List.set_cons_zero, List.set_cons_succ]
                refine wpAnyH_ready (rs := [13]) (by kernel_rfl) (by simp) ?_
                refine (AllReadyH.cons rfl (fun K hK => ?_) AllReadyH.nil)
                go_simp
                refine hK.out _ _ (by refine ⟨?_, ?_, ?_⟩ <;> (rw [World.cell?_setCell_other _ _ _ _ (by simp <;> omega)]; first | exact hHeld.1 | exact hHeld.2.1 | exact hHeld.2.2)) (fun hHeld2 => ?_)
                clear hK K hHeld
                have hHeld := hHeld2; clear hHeld2
                try simp only [Act.put, List.setIfInBounds_toArray, List.set_cons_zero, List.set_cons_succ]
                refine wpAnyH_done (by kernel_rfl) ?_ _
                go_wp2
                go_roundw
                case rel => exact ⟨k + 1, .slice va vn vc, by omega, by go_num, unhide HST, by unfold OwnF; rw [unhide HSU, loseTo_snoc, fcs_append, fcs_one]; exact unhide HO5, unhide HG5⟩
                case measure => simp [intOf]; omega
        · have hgd : left.getD k 0 = 0 := by simp [List.getD, List.getElem?_eq_none (by omega : left.length ≤ k)]
          rw [hgd] at HSU
          clear hgd
          by_cases hc2 : 0 < fk
          · go_wp2
            obtain ⟨x, hx⟩ : ∃ x : Int, x = 0 := ⟨_, rfl⟩
            rw [← hx] at HSU
            have hN : fk = max fk (min x (ft.size : Int)) := by omega
            obtain ⟨T, hT⟩ : ∃ T, T = ft.extract 0 fk.toNat := ⟨_, rfl⟩
            have hNb1 : 0 ≤ fk := by rw [hN]; omega
            have hNb2 : fk ≤ (ft.size : Int) := by rw [hN]; omega
            have HTT := hide hT
            have HLF := hide (show loseF ⟨fn, ft, fk⟩ x = ⟨fn, T, fk⟩ by unfold loseF keepN; simp only; rw [← hN, ← hT])
            rw [unhide HLF] at HSU
            have HNB := hide (fun b (hb : ov.ownBlock = some b) => (show W2.heap.size ≤ b ∧ b < wr.heap.size from (unhide HOW).lt b hb))
            clear hN hT HLF
            obtain ⟨W3, hW3⟩ : ∃ W3, W3 = wr.alloc (.cells #[.string fn, .string ft, .int .i64 fk] 55) := ⟨_, rfl⟩
            have s0 : W3.cell? ⟨wr.heap.size, 0, none⟩ = some (.string fn) := by rw [hW3]; go_simp
            have s1 : W3.cell? ⟨wr.heap.size, 1, none⟩ = some (.string ft) := by rw [hW3]; go_simp
            have s2 : W3.cell? ⟨wr.heap.size, 2, none⟩ = some (.int .i64 fk) := by rw [hW3]; go_simp
            have hB3 : Below wr.heap.size wr W3 := by rw [hW3]; exact (Below.refl _ _).alloc (Nat.le_refl _) _
            have hsz3 : W3.heap.size = wr.heap.size + 1 := by rw [hW3]; simp
            have hov3 : W3.heap[w1.heap.size]? = some (.cells #[ov] 26 (0, 0)) := (hB3.block _ (by omega)).trans (unhide HOV)
            rw [← hW3]
            clear hW3
            have keepf : Hid (∀ wx wy : World, Below wx.heap.size wx wy → wr.heap.size < wx.heap.size → (wx.cell? ⟨wr.heap.size, 0, none⟩ = some (.string fn) ∧ wx.cell? ⟨wr.heap.size, 1, none⟩ = some (.string ft) ∧ wx.cell? ⟨wr.heap.size, 2, none⟩ = some (.int .i64 fk)) → wy.cell? ⟨wr.heap.size, 0, none⟩ = some (.string fn) ∧ wy.cell? ⟨wr.heap.size, 1, none⟩ = some (.string ft) ∧ wy.cell? ⟨wr.heap.size, 2, none⟩ = some (.int .i64 fk)) := fun wx wy hb hl hc => by
              rw [hb.cell (p := ⟨wr.heap.size, 0, none⟩) hl, hb.cell (p := ⟨wr.heap.size, 1, none⟩) hl, hb.cell (p := ⟨wr.heap.size, 2, none⟩) hl]
              exact hc
            refine wp_region_held_drew (S := fun w' => w'.cell? ⟨wr.heap.size, 0, none⟩ = some (.string fn) ∧ w'.cell? ⟨wr.heap.size, 1, none⟩ = some (.string ft) ∧ w'.cell? ⟨wr.heap.size, 2, none⟩ = some (.int .i64 fk)) (by kernel_rfl) (⟨s0, s1, s2⟩) (fun hHeld => ?_)
            obtain ⟨w4, hw4⟩ : ∃ w4, w4 = W3.drew := ⟨_, rfl⟩
            rw [← hw4] at hHeld ⊢
            have hB4 : Below wr.heap.size wr w4 := by rw [hw4]; exact hB3.drew
            have hw4s : wr.heap.size + 1 ≤ w4.heap.size := by rw [hw4]; show wr.heap.size + 1 ≤ W3.heap.size; omega
            have hov4 : w4.heap[w1.heap.size]? = some (.cells #[ov] 26 (0, 0)) := by rw [hw4]; exact hov3
            have k4 := cell_of_row w4 w1.heap.size 0 _ _ (0, 0) hov4
            simp only [List.getElem?_toArray, List.getElem?_cons_zero] at k4
            have k5 : ∀ o, (w4.alloc o).cell? ⟨w1.heap.size, 0, none⟩ = some ov := fun o => (World.cell?_alloc_lt _ _ _ (by show w1.heap.size < _; omega)).trans k4
            have HOV4 := hide hov4
            clear hov4 hw4 hov3 s0 s1 s2
            refine takeVal 0 (some 49) ?_ rfl (by kernel_rfl) (by kernel_rfl) (by kernel_rfl) rfl (fun _ _ _ h => h) (by rfl) (by assumption) ?_ ?_
            rotate_left
            · (intro w hSw; (try dsimp only at hSw); go_simp <;> with_reducible rfl)
            simp only [Act.put, List.setIfInBounds_toArray, List.set_cons_zero, List.set_cons_succ]
            refine takeVal 2 (some 51) ?_ rfl (by kernel_rfl) (by kernel_rfl) (by kernel_rfl) rfl (fun _ _ _ h => h) (by rfl) (by assumption) ?_ ?_
            rotate_left
            · (intro w hSw; (try dsimp only at hSw); go_simp <;> with_reducible rfl)
            simp only [Act.put, List.setIfInBounds_toArray, List.set_cons_zero, List.set_cons_succ]
            refine takeVal 3 (some 52) ?_ rfl (by kernel_rfl) (by kernel_rfl) (by kernel_rfl) rfl (fun _ _ _ h => h) (by rfl) (by assumption) ?_ ?_
            rotate_left
            · (intro w hSw; (try dsimp only at hSw); go_simp <;> with_reducible rfl)
            simp only [Act.put, List.setIfInBounds_toArray, List.set_cons_zero, List.set_cons_succ]
            refine takeVal 4 (some 53) ?_ rfl (by kernel_rfl) (by kernel_rfl) (by kernel_rfl) rfl (fun _ _ _ h => h) (by rfl) (by assumption) ?_ ?_
            rotate_left
            · (intro w hSw; (try dsimp only at hSw); go_simp <;> with_reducible rfl)
            simp only [Act.put, List.setIfInBounds_toArray, List.set_cons_zero, List.set_cons_succ]
            refine takeVal 5 (some 54) ?_ rfl (by kernel_rfl) (by kernel_rfl) (by kernel_rfl) rfl (fun _ _ _ h => h) (by rfl) (by assumption) ?_ ?_
            rotate_left
            · (intro w hSw; (try dsimp only at hSw); go_simp <;> with_reducible rfl)
            simp only [Act.put, List.setIfInBounds_toArray, List.set_cons_zero, List.set_cons_succ]
            refine takeVal 6 (some 55) ?_ rfl (by kernel_rfl) (by kernel_rfl) (by kernel_rfl) rfl (fun _ _ _ h => h) (by rfl) (by assumption) ?_ ?_
            rotate_left
            · (intro w hSw; (try dsimp only at hSw); go_simp <;> with_reducible rfl)
            simp only [Act.put, List.setIfInBounds_toArray, List.set_cons_zero, List.set_cons_succ]
            refine takeVal 7 (some 56) ?_ rfl (by kernel_rfl) (by kernel_rfl) (by kernel_rfl) rfl (fun _ _ _ h => h) (by rfl) (by assumption) ?_ ?_
            rotate_left
            · (intro w hSw; (try dsimp only at hSw); go_simp <;> with_reducible rfl)
            simp only [Act.put, List.setIfInBounds_toArray, List.set_cons_zero, List.set_cons_succ]
            rw [← unhide HTT]
            refine takeVal 8 (some 57) ?_ rfl (by kernel_rfl) (by kernel_rfl) (by kernel_rfl) rfl (fun _ _ _ h => h) (by rfl) (by assumption) ?_ ?_
            rotate_left
            · (intro w hSw; (try dsimp only at hSw); go_simp <;> with_reducible rfl)
            simp only [Act.put, List.setIfInBounds_toArray, List.set_cons_zero, List.set_cons_succ]
            refine takeVal 9 (some 58) ?_ rfl (by kernel_rfl) (by kernel_rfl) (by kernel_rfl) rfl (fun _ _ _ h => h) (by rfl) (by assumption) ?_ ?_
            rotate_left
            · (intro w hSw; (try dsimp only at hSw); go_simp <;> with_reducible rfl)
            simp only [Act.put, List.setIfInBounds_toArray, List.set_cons_zero, List.set_cons_succ]
            refine wpAnyH_ready (rs := [1, 10]) (by kernel_rfl) (by simp) ?_
            refine (AllReadyH.cons rfl (fun K hK => ?_) (AllReadyH.cons rfl (fun K hK => ?_) AllReadyH.nil))
            · go_simp
              refine hK.out _ _ (hHeld) (fun hHeld2 => ?_)
              clear hK K hHeld
              have hHeld := hHeld2; clear hHeld2
              try simp only [Act.put, List.setIfInBounds_toArray, List.set_cons_zero, List.set_cons_succ]
              refine wpAnyH_ready (rs := [10]) (by kernel_rfl) (by simp) ?_
              refine (AllReadyH.cons rfl (fun K hK => ?_) AllReadyH.nil)
              go_simp
              refine hK.out _ _ (unhide keepf _ _ ((Below.refl w4.heap.size w4).alloc (Nat.le_refl _) _) (by omega) hHeld) (fun hHeld2 => ?_)
              clear hK K hHeld
              have hHeld := hHeld2; clear hHeld2
              try simp only [Act.put, List.setIfInBounds_toArray, List.set_cons_zero, List.set_cons_succ]
              refine wpAnyH_ready (rs := [11]) (by kernel_rfl) (by simp) ?_
              refine (AllReadyH.cons rfl (fun K hK => ?_) AllReadyH.nil)
              rw [if_pos (by rfl)]
              have own5 : (w4.alloc (.cells #[.string fn, .string T, .int .i64 fk] 55)).ownsRow W2.heap.size 55 3 ov k (fcs (loseTo l left k)) := by have := own_stays (unhide HOW) (hB4.alloc (by omega) (.cells #[.string fn, .string T, .int .i64 fk] 55)); rwa [loseTo_length] at this
              refine wp_append_own _ (.tmp 50) (.tmp 59) 24 rfl W2.heap.size 55 i0 _ 3 40 Try.underlying24 hi hz0 hz1 hz2 rfl (by decide) ov k (fcs (loseTo l left k)) rfl own5 ⟨w4.heap.size, 0, none⟩ 1 1 (fc ⟨fn, T, fk⟩) rfl rfl (news3 w4 fn T fk) (one3 fn T fk) (by unfold maxLen; omega) (by omega) (by simp; omega) ?_
              intro v' w5 hown5 hgr5 hnil5
              have ne5 : ov.ownBlock ≠ some w1.heap.size := fun e => by have := unhide HNB _ e; omega
              have nf5 : ov.ownBlock ≠ some wr.heap.size := fun e => by have := unhide HNB _ e; omega
              have hov5 : w5.heap[w1.heap.size]? = some (.cells #[ov] 26 (0, 0)) := (hgr5.block _ (by simp; omega) (Ne.symm ne5)).trans ((Below.heap_alloc _ _ _ (by omega)).trans (unhide HOV4))
              have hsz5 : w4.heap.size + 1 ≤ w5.heap.size := by have := hgr5.size; simpa using this
              refine hK.out _ _ (by rw [World.cell?_of_block (w := w4.alloc _) (a := ⟨wr.heap.size, 0, none⟩) (hgr5.block _ (by simp; omega) (Ne.symm nf5)), World.cell?_of_block (w := w4.alloc _) (a := ⟨wr.heap.size, 1, none⟩) (hgr5.block _ (by simp; omega) (Ne.symm nf5)), World.cell?_of_block (w := w4.alloc _) (a := ⟨wr.heap.size, 2, none⟩) (hgr5.block _ (by simp; omega) (Ne.symm nf5))]; exact hHeld) (fun hHeld2 => ?_)
              clear hK K hHeld
              have hHeld := hHeld2; clear hHeld2
              try simp only [Act.put, List.setIfInBounds_toArray, List.set_cons_zero, List.set_cons_succ]
              have k6 := cell_of_row w5 w1.heap.size 0 _ _ (0, 0) hov5
              have z6 := frozen_of_row w5 w1.heap.size 0 _ _ hov5
              simp only [List.getElem?_toArray, List.getElem?_cons_zero] at k6
              obtain ⟨va, vn, vc, hv'⟩ : ∃ a n c, v' = .slice a n c := by rcases hown5.2 with ⟨h, _⟩ | ⟨_, _, _, h, _⟩ <;> exact ⟨_, _, _, h⟩
              subst hv'
              have HST := hide (set1 (.slice va vn vc) hov5)
              have HO5 := hide (ownsRow_setCell_below hown5 (a := ⟨w1.heap.size, 0, none⟩) (by show w1.heap.size < _; omega) (.slice va vn vc))
              have HG5 := hide (chain (v' := .slice va vn vc) hgr hB4 hgr5 (fun b hb => (unhide HNB b hb).1))
              clear hown5 hgr5 hnil5 hov5 own5
              refine takeVal 12 (some 61) ?_ rfl (by kernel_rfl) (by kernel_rfl) (by kernel_rfl) rfl (fun _ _ _ h => h) (by rfl) (by assumption) ?_ ?_
              rotate_left
              · (intro w hSw; (try dsimp only at hSw); go_simp <;> with_reducible rfl)
              simp only [Act.put, List.setIfInBounds_toArray, List.set_cons_zero, List.set_cons_succ]
              refine wpAnyH_ready (rs := [13]) (by kernel_rfl) (by simp) ?_
              refine (AllReadyH.cons rfl (fun K hK => ?_) AllReadyH.nil)
              go_simp
              refine hK.out _ _ (by refine ⟨?_, ?_, ?_⟩ <;> (rw [World.cell?_setCell_other _ _ _ _ (by simp <;> omega)]; first | exact hHeld.1 | exact hHeld.2.1 | exact hHeld.2.2)) (fun hHeld2 => ?_)
              clear hK K hHeld
              have hHeld := hHeld2; clear hHeld2
              try simp only [Act.put, List.setIfInBounds_toArray, List.set_cons_zero, List.set_cons_succ]
              refine wpAnyH_done (by kernel_rfl) ?_ _
              go_wp2
              go_roundw
              case rel => exact ⟨k + 1, .slice va vn vc, by omega, by go_num, unhide HST, by unfold OwnF; rw [unhide HSU, loseTo_snoc, fcs_append, fcs_one]; exact unhide HO5, unhide HG5⟩
              case measure => simp [intOf]; omega
            · go_simp
              refine hK.out _ _ (unhide keepf _ _ ((Below.refl w4.heap.size w4).alloc (Nat.le_refl _) _) (by omega) hHeld) (fun hHeld2 => ?_)
              clear hK K hHeld
              have hHeld := hHeld2; clear hHeld2
              try simp only [Act.put, List.setIfInBounds_toArray, List.set_cons_zero, List.set_cons_succ]
              refine wpAnyH_ready (rs := [1]) (by kernel_rfl) (by simp) ?_
              refine (AllReadyH.cons rfl (fun K hK => ?_) AllReadyH.nil)
              go_simp
              refine hK.out _ _ (hHeld) (fun hHeld2 => ?_)
              clear hK K hHeld
              have hHeld := hHeld2; clear hHeld2
              try simp only [Act.put, List.setIfInBounds_toArray, List.set_cons_zero, List.set_cons_succ]
              refine wpAnyH_ready (rs := [11]) (by kernel_rfl) (by simp) ?_
              refine (AllReadyH.cons rfl (fun K hK => ?_) AllReadyH.nil)
              rw [if_pos (by rfl)]
              have own5 : (w4.alloc (.cells #[.string fn, .string T, .int .i64 fk] 55)).ownsRow W2.heap.size 55 3 ov k (fcs (loseTo l left k)) := by have := own_stays (unhide HOW) (hB4.alloc (by omega) (.cells #[.string fn, .string T, .int .i64 fk] 55)); rwa [loseTo_length] at this
              refine wp_append_own _ (.tmp 50) (.tmp 59) 24 rfl W2.heap.size 55 i0 _ 3 40 Try.underlying24 hi hz0 hz1 hz2 rfl (by decide) ov k (fcs (loseTo l left k)) rfl own5 ⟨w4.heap.size, 0, none⟩ 1 1 (fc ⟨fn, T, fk⟩) rfl rfl (news3 w4 fn T fk) (one3 fn T fk) (by unfold maxLen; omega) (by omega) (by simp; omega) ?_
              intro v' w5 hown5 hgr5 hnil5
              have ne5 : ov.ownBlock ≠ some w1.heap.size := fun e => by have := unhide HNB _ e; omega
              have nf5 : ov.ownBlock ≠ some wr.heap.size := fun e => by have := unhide HNB _ e; omega
              have hov5 : w5.heap[w1.heap.size]? = some (.cells #[ov] 26 (0, 0)) := (hgr5.block _ (by simp; omega) (Ne.symm ne5)).trans ((Below.heap_alloc _ _ _ (by omega)).trans (unhide HOV4))
              have hsz5 : w4.heap.size + 1 ≤ w5.heap.size := by have := hgr5.size; simpa using this
              refine hK.out _ _ (by rw [World.cell?_of_block (w := w4.alloc _) (a := ⟨wr.heap.size, 0, none⟩) (hgr5.block _ (by simp; omega) (Ne.symm nf5)), World.cell?_of_block (w := w4.alloc _) (a := ⟨wr.heap.size, 1, none⟩) (hgr5.block _ (by simp; omega) (Ne.symm nf5)), World.cell?_of_block (w := w4.alloc _) (a := ⟨wr.heap.size, 2, none⟩) (hgr5.block _ (by simp; omega) (Ne.symm nf5))]; exact hHeld) (fun hHeld2 => ?_)
              clear hK K hHeld
              have hHeld := hHeld2; clear hHeld2
              try simp only [Act.put, List.setIfInBounds_toArray, List.set_cons_zero, List.set_cons_succ]
              have k6 := cell_of_row w5 w1.heap.size 0 _ _ (0, 0) hov5
              have z6 := frozen_of_row w5 w1.heap.size 0 _ _ hov5
              simp only [List.getElem?_toArray, List.getElem?_cons_zero] at k6
              obtain ⟨va, vn, vc, hv'⟩ : ∃ a n c, v' = .slice a n c := by rcases hown5.2 with ⟨h, _⟩ | ⟨_, _, _, h, _⟩ <;> exact ⟨_, _, _, h⟩
              subst hv'
              have HST := hide (set1 (.slice va vn vc) hov5)
              have HO5 := hide (ownsRow_setCell_below hown5 (a := ⟨w1.heap.size, 0, none⟩) (by show w1.heap.size < _; omega) (.slice va vn vc))
              have HG5 := hide (chain (v' := .slice va vn vc) hgr hB4 hgr5 (fun b hb => (unhide HNB b hb).1))
              clear hown5 hgr5 hnil5 hov5 own5
              refine takeVal 12 (some 61) ?_ rfl (by kernel_rfl) (by kernel_rfl) (by kernel_rfl) rfl (fun _ _ _ h => h) (by rfl) (by assumption) ?_ ?_
              rotate_left
              · (intro w hSw; (try dsimp only at hSw); go_simp <;> with_reducible rfl)
              simp only [Act.put, List.setIfInBounds_toArray, List.set_cons_zero, List.set_cons_succ]
              refine wpAnyH_ready (rs := [13]) (by kernel_rfl) (by simp) ?_
              refine (AllReadyH.cons rfl (fun K hK => ?_) AllReadyH.nil)
              go_simp
              refine hK.out _ _ (by refine ⟨?_, ?_, ?_⟩ <;> (rw [World.cell?_setCell_other _ _ _ _ (by simp <;> omega)]; first | exact hHeld.1 | exact hHeld.2.1 | exact hHeld.2.2)) (fun hHeld2 => ?_)
              clear hK K hHeld
              have hHeld := hHeld2; clear hHeld2
              try simp only [Act.put, List.setIfInBounds_toArray, List.set_cons_zero, List.set_cons_succ]
              refine wpAnyH_done (by kernel_rfl) ?_ _
              go_wp2
              go_roundw
              case rel => exact ⟨k + 1, .slice va vn vc, by omega, by go_num, unhide HST, by unfold OwnF; rw [unhide HSU, loseTo_snoc, fcs_append, fcs_one]; exact unhide HO5, unhide HG5⟩
              case measure => simp [intOf]; omega
          · go_wp2
            obtain ⟨x, hx⟩ : ∃ x : Int, x = 0 := ⟨_, rfl⟩
            rw [← hx] at HSU
            obtain ⟨N, hNv⟩ : ∃ N, N = (0 : Int) := ⟨_, rfl⟩
            have hN : N = max fk (min x (ft.size : Int)) := by rw [hNv]; omega
            obtain ⟨T, hT⟩ : ∃ T, T = ft.extract 0 N.toNat := ⟨_, rfl⟩
            have hNb1 : 0 ≤ N := by rw [hN]; omega
            have hNb2 : N ≤ (ft.size : Int) := by rw [hN]; omega
            have HTT := hide hT
            have HLF := hide (show loseF ⟨fn, ft, fk⟩ x = ⟨fn, T, N⟩ by unfold loseF keepN; simp only; rw [← hN, ← hT])
            rw [unhide HLF] at HSU
            rw [← hNv]
            have HNB := hide (fun b (hb : ov.ownBlock = some b) => (show W2.heap.size ≤ b ∧ b < wr.heap.size from (unhide HOW).lt b hb))
            clear hN hT HLF hNv
            obtain ⟨W3, hW3⟩ : ∃ W3, W3 = wr.alloc (.cells #[.string fn, .string ft, .int .i64 fk] 55) := ⟨_, rfl⟩
            have s0 : W3.cell? ⟨wr.heap.size, 0, none⟩ = some (.string fn) := by rw [hW3]; go_simp
            have s1 : W3.cell? ⟨wr.heap.size, 1, none⟩ = some (.string ft) := by rw [hW3]; go_simp
            have s2 : W3.cell? ⟨wr.heap.size, 2, none⟩ = some (.int .i64 fk) := by rw [hW3]; go_simp
            have hB3 : Below wr.heap.size wr W3 := by rw [hW3]; exact (Below.refl _ _).alloc (Nat.le_refl _) _
            have hsz3 : W3.heap.size = wr.heap.size + 1 := by rw [hW3]; simp
            have hov3 : W3.heap[w1.heap.size]? = some (.cells #[ov] 26 (0, 0)) := (hB3.block _ (by omega)).trans (unhide HOV)
            rw [← hW3]
            clear hW3
            have keepf : Hid (∀ wx wy : World, Below wx.heap.size wx wy → wr.heap.size < wx.heap.size → (wx.cell? ⟨wr.heap.size, 0, none⟩ = some (.string fn) ∧ wx.cell? ⟨wr.heap.size, 1, none⟩ = some (.string ft) ∧ wx.cell? ⟨wr.heap.size, 2, none⟩ = some (.int .i64 fk)) → wy.cell? ⟨wr.heap.size, 0, none⟩ = some (.string fn) ∧ wy.cell? ⟨wr.heap.size, 1, none⟩ = some (.string ft) ∧ wy.cell? ⟨wr.heap.size, 2, none⟩ = some (.int .i64 fk)) := fun wx wy hb hl hc => by
              rw [hb.cell (p := ⟨wr.heap.size, 0, none⟩) hl, hb.cell (p := ⟨wr.heap.size, 1, none⟩) hl, hb.cell (p := ⟨wr.heap.size, 2, none⟩) hl]
              exact hc
            refine wp_region_held_drew (S := fun w' => w'.cell? ⟨wr.heap.size, 0, none⟩ = some (.string fn) ∧ w'.cell? ⟨wr.heap.size, 1, none⟩ = some (.string ft) ∧ w'.cell? ⟨wr.heap.size, 2, none⟩ = some (.int .i64 fk)) (by kernel_rfl) (⟨s0, s1, s2⟩) (fun hHeld => ?_)
            obtain ⟨w4, hw4⟩ : ∃ w4, w4 = W3.drew := ⟨_, rfl⟩
            rw [← hw4] at hHeld ⊢
            have hB4 : Below wr.heap.size wr w4 := by rw [hw4]; exact hB3.drew
            have hw4s : wr.heap.size + 1 ≤ w4.heap.size := by rw [hw4]; show wr.heap.size + 1 ≤ W3.heap.size; omega
            have hov4 : w4.heap[w1.heap.size]? = some (.cells #[ov] 26 (0, 0)) := by rw [hw4]; exact hov3
            have k4 := cell_of_row w4 w1.heap.size 0 _ _ (0, 0) hov4
            simp only [List.getElem?_toArray, List.getElem?_cons_zero] at k4
            have k5 : ∀ o, (w4.alloc o).cell? ⟨w1.heap.size, 0, none⟩ = some ov := fun o => (World.cell?_alloc_lt _ _ _ (by show w1.heap.size < _; omega)).trans k4
            have HOV4 := hide hov4
            clear hov4 hw4 hov3 s0 s1 s2
            refine takeVal 0 (some 49) ?_ rfl (by kernel_rfl) (by kernel_rfl) (by kernel_rfl) rfl (fun _ _ _ h => h) (by rfl) (by assumption) ?_ ?_
            rotate_left
            · (intro w hSw; (try dsimp only at hSw); go_simp <;> with_reducible rfl)
            simp only [Act.put, List.setIfInBounds_toArray, List.set_cons_zero, List.set_cons_succ]
            refine takeVal 2 (some 51) ?_ rfl (by kernel_rfl) (by kernel_rfl) (by kernel_rfl) rfl (fun _ _ _ h => h) (by rfl) (by assumption) ?_ ?_
            rotate_left
            · (intro w hSw; (try dsimp only at hSw); go_simp <;> with_reducible rfl)
            simp only [Act.put, List.setIfInBounds_toArray, List.set_cons_zero, List.set_cons_succ]
            refine takeVal 3 (some 52) ?_ rfl (by kernel_rfl) (by kernel_rfl) (by kernel_rfl) rfl (fun _ _ _ h => h) (by rfl) (by assumption) ?_ ?_
            rotate_left
            · (intro w hSw; (try dsimp only at hSw); go_simp <;> with_reducible rfl)
            simp only [Act.put, List.setIfInBounds_toArray, List.set_cons_zero, List.set_cons_succ]
            refine takeVal 4 (some 53) ?_ rfl (by kernel_rfl) (by kernel_rfl) (by kernel_rfl) rfl (fun _ _ _ h => h) (by rfl) (by assumption) ?_ ?_
            rotate_left
            · (intro w hSw; (try dsimp only at hSw); go_simp <;> with_reducible rfl)
            simp only [Act.put, List.setIfInBounds_toArray, List.set_cons_zero, List.set_cons_succ]
            refine takeVal 5 (some 54) ?_ rfl (by kernel_rfl) (by kernel_rfl) (by kernel_rfl) rfl (fun _ _ _ h => h) (by rfl) (by assumption) ?_ ?_
            rotate_left
            · (intro w hSw; (try dsimp only at hSw); go_simp <;> with_reducible rfl)
            simp only [Act.put, List.setIfInBounds_toArray, List.set_cons_zero, List.set_cons_succ]
            refine takeVal 6 (some 55) ?_ rfl (by kernel_rfl) (by kernel_rfl) (by kernel_rfl) rfl (fun _ _ _ h => h) (by rfl) (by assumption) ?_ ?_
            rotate_left
            · (intro w hSw; (try dsimp only at hSw); go_simp <;> with_reducible rfl)
            simp only [Act.put, List.setIfInBounds_toArray, List.set_cons_zero, List.set_cons_succ]
            refine takeVal 7 (some 56) ?_ rfl (by kernel_rfl) (by kernel_rfl) (by kernel_rfl) rfl (fun _ _ _ h => h) (by rfl) (by assumption) ?_ ?_
            rotate_left
            · (intro w hSw; (try dsimp only at hSw); go_simp <;> with_reducible rfl)
            simp only [Act.put, List.setIfInBounds_toArray, List.set_cons_zero, List.set_cons_succ]
            rw [← unhide HTT]
            refine takeVal 8 (some 57) ?_ rfl (by kernel_rfl) (by kernel_rfl) (by kernel_rfl) rfl (fun _ _ _ h => h) (by rfl) (by assumption) ?_ ?_
            rotate_left
            · (intro w hSw; (try dsimp only at hSw); go_simp <;> with_reducible rfl)
            simp only [Act.put, List.setIfInBounds_toArray, List.set_cons_zero, List.set_cons_succ]
            refine takeVal 9 (some 58) ?_ rfl (by kernel_rfl) (by kernel_rfl) (by kernel_rfl) rfl (fun _ _ _ h => h) (by rfl) (by assumption) ?_ ?_
            rotate_left
            · (intro w hSw; (try dsimp only at hSw); go_simp <;> with_reducible rfl)
            simp only [Act.put, List.setIfInBounds_toArray, List.set_cons_zero, List.set_cons_succ]
            refine wpAnyH_ready (rs := [1, 10]) (by kernel_rfl) (by simp) ?_
            refine (AllReadyH.cons rfl (fun K hK => ?_) (AllReadyH.cons rfl (fun K hK => ?_) AllReadyH.nil))
            · go_simp
              refine hK.out _ _ (hHeld) (fun hHeld2 => ?_)
              clear hK K hHeld
              have hHeld := hHeld2; clear hHeld2
              try simp only [Act.put, List.setIfInBounds_toArray, List.set_cons_zero, List.set_cons_succ]
              refine wpAnyH_ready (rs := [10]) (by kernel_rfl) (by simp) ?_
              refine (AllReadyH.cons rfl (fun K hK => ?_) AllReadyH.nil)
              go_simp
              refine hK.out _ _ (unhide keepf _ _ ((Below.refl w4.heap.size w4).alloc (Nat.le_refl _) _) (by omega) hHeld) (fun hHeld2 => ?_)
              clear hK K hHeld
              have hHeld := hHeld2; clear hHeld2
              try simp only [Act.put, List.setIfInBounds_toArray, List.set_cons_zero, List.set_cons_succ]
              refine wpAnyH_ready (rs := [11]) (by kernel_rfl) (by simp) ?_
              refine (AllReadyH.cons rfl (fun K hK => ?_) AllReadyH.nil)
              rw [if_pos (by rfl)]
              have own5 : (w4.alloc (.cells #[.string fn, .string T, .int .i64 N] 55)).ownsRow W2.heap.size 55 3 ov k (fcs (loseTo l left k)) := by have := own_stays (unhide HOW) (hB4.alloc (by omega) (.cells #[.string fn, .string T, .int .i64 N] 55)); rwa [loseTo_length] at this
              refine wp_append_own _ (.tmp 50) (.tmp 59) 24 rfl W2.heap.size 55 i0 _ 3 40 Try.underlying24 hi hz0 hz1 hz2 rfl (by decide) ov k (fcs (loseTo l left k)) rfl own5 ⟨w4.heap.size, 0, none⟩ 1 1 (fc ⟨fn, T, N⟩) rfl rfl (news3 w4 fn T N) (one3 fn T N) (by unfold maxLen; omega) (by omega) (by simp; omega) ?_
              intro v' w5 hown5 hgr5 hnil5
              have ne5 : ov.ownBlock ≠ some w1.heap.size := fun e => by have := unhide HNB _ e; omega
              have nf5 : ov.ownBlock ≠ some wr.heap.size := fun e => by have := unhide HNB _ e; omega
              have hov5 : w5.heap[w1.heap.size]? = some (.cells #[ov] 26 (0, 0)) := (hgr5.block _ (by simp; omega) (Ne.symm ne5)).trans ((Below.heap_alloc _ _ _ (by omega)).trans (unhide HOV4))
              have hsz5 : w4.heap.size + 1 ≤ w5.heap.size := by have := hgr5.size; simpa using this
              refine hK.out _ _ (by rw [World.cell?_of_block (w := w4.alloc _) (a := ⟨wr.heap.size, 0, none⟩) (hgr5.block _ (by simp; omega) (Ne.symm nf5)), World.cell?_of_block (w := w4.alloc _) (a := ⟨wr.heap.size, 1, none⟩) (hgr5.block _ (by simp; omega) (Ne.symm nf5)), World.cell?_of_block (w := w4.alloc _) (a := ⟨wr.heap.size, 2, none⟩) (hgr5.block _ (by simp; omega) (Ne.symm nf5))]; exact hHeld) (fun hHeld2 => ?_)
              clear hK K hHeld
              have hHeld := hHeld2; clear hHeld2
              try simp only [Act.put, List.setIfInBounds_toArray, List.set_cons_zero, List.set_cons_succ]
              have k6 := cell_of_row w5 w1.heap.size 0 _ _ (0, 0) hov5
              have z6 := frozen_of_row w5 w1.heap.size 0 _ _ hov5
              simp only [List.getElem?_toArray, List.getElem?_cons_zero] at k6
              obtain ⟨va, vn, vc, hv'⟩ : ∃ a n c, v' = .slice a n c := by rcases hown5.2 with ⟨h, _⟩ | ⟨_, _, _, h, _⟩ <;> exact ⟨_, _, _, h⟩
              subst hv'
              have HST := hide (set1 (.slice va vn vc) hov5)
              have HO5 := hide (ownsRow_setCell_below hown5 (a := ⟨w1.heap.size, 0, none⟩) (by show w1.heap.size < _; omega) (.slice va vn vc))
              have HG5 := hide (chain (v' := .slice va vn vc) hgr hB4 hgr5 (fun b hb => (unhide HNB b hb).1))
              clear hown5 hgr5 hnil5 hov5 own5
              refine takeVal 12 (some 61) ?_ rfl (by kernel_rfl) (by kernel_rfl) (by kernel_rfl) rfl (fun _ _ _ h => h) (by rfl) (by assumption) ?_ ?_
              rotate_left
              · (intro w hSw; (try dsimp only at hSw); go_simp <;> with_reducible rfl)
              simp only [Act.put, List.setIfInBounds_toArray, List.set_cons_zero, List.set_cons_succ]
              refine wpAnyH_ready (rs := [13]) (by kernel_rfl) (by simp) ?_
              refine (AllReadyH.cons rfl (fun K hK => ?_) AllReadyH.nil)
              go_simp
              refine hK.out _ _ (by refine ⟨?_, ?_, ?_⟩ <;> (rw [World.cell?_setCell_other _ _ _ _ (by simp <;> omega)]; first | exact hHeld.1 | exact hHeld.2.1 | exact hHeld.2.2)) (fun hHeld2 => ?_)
              clear hK K hHeld
              have hHeld := hHeld2; clear hHeld2
              try simp only [Act.put, List.setIfInBounds_toArray, List.set_cons_zero, List.set_cons_succ]
              refine wpAnyH_done (by kernel_rfl) ?_ _
              go_wp2
              go_roundw
              case rel => exact ⟨k + 1, .slice va vn vc, by omega, by go_num, unhide HST, by unfold OwnF; rw [unhide HSU, loseTo_snoc, fcs_append, fcs_one]; exact unhide HO5, unhide HG5⟩
              case measure => simp [intOf]; omega
            · go_simp
              refine hK.out _ _ (unhide keepf _ _ ((Below.refl w4.heap.size w4).alloc (Nat.le_refl _) _) (by omega) hHeld) (fun hHeld2 => ?_)
              clear hK K hHeld
              have hHeld := hHeld2; clear hHeld2
              try simp only [Act.put, List.setIfInBounds_toArray, List.set_cons_zero, List.set_cons_succ]
              refine wpAnyH_ready (rs := [1]) (by kernel_rfl) (by simp) ?_
              refine (AllReadyH.cons rfl (fun K hK => ?_) AllReadyH.nil)
              go_simp
              refine hK.out _ _ (hHeld) (fun hHeld2 => ?_)
              clear hK K hHeld
              have hHeld := hHeld2; clear hHeld2
              try simp only [Act.put, List.setIfInBounds_toArray, List.set_cons_zero, List.set_cons_succ]
              refine wpAnyH_ready (rs := [11]) (by kernel_rfl) (by simp) ?_
              refine (AllReadyH.cons rfl (fun K hK => ?_) AllReadyH.nil)
              rw [if_pos (by rfl)]
              have own5 : (w4.alloc (.cells #[.string fn, .string T, .int .i64 N] 55)).ownsRow W2.heap.size 55 3 ov k (fcs (loseTo l left k)) := by have := own_stays (unhide HOW) (hB4.alloc (by omega) (.cells #[.string fn, .string T, .int .i64 N] 55)); rwa [loseTo_length] at this
              refine wp_append_own _ (.tmp 50) (.tmp 59) 24 rfl W2.heap.size 55 i0 _ 3 40 Try.underlying24 hi hz0 hz1 hz2 rfl (by decide) ov k (fcs (loseTo l left k)) rfl own5 ⟨w4.heap.size, 0, none⟩ 1 1 (fc ⟨fn, T, N⟩) rfl rfl (news3 w4 fn T N) (one3 fn T N) (by unfold maxLen; omega) (by omega) (by simp; omega) ?_
              intro v' w5 hown5 hgr5 hnil5
              have ne5 : ov.ownBlock ≠ some w1.heap.size := fun e => by have := unhide HNB _ e; omega
              have nf5 : ov.ownBlock ≠ some wr.heap.size := fun e => by have := unhide HNB _ e; omega
              have hov5 : w5.heap[w1.heap.size]? = some (.cells #[ov] 26 (0, 0)) := (hgr5.block _ (by simp; omega) (Ne.symm ne5)).trans ((Below.heap_alloc _ _ _ (by omega)).trans (unhide HOV4))
              have hsz5 : w4.heap.size + 1 ≤ w5.heap.size := by have := hgr5.size; simpa using this
              refine hK.out _ _ (by rw [World.cell?_of_block (w := w4.alloc _) (a := ⟨wr.heap.size, 0, none⟩) (hgr5.block _ (by simp; omega) (Ne.symm nf5)), World.cell?_of_block (w := w4.alloc _) (a := ⟨wr.heap.size, 1, none⟩) (hgr5.block _ (by simp; omega) (Ne.symm nf5)), World.cell?_of_block (w := w4.alloc _) (a := ⟨wr.heap.size, 2, none⟩) (hgr5.block _ (by simp; omega) (Ne.symm nf5))]; exact hHeld) (fun hHeld2 => ?_)
              clear hK K hHeld
              have hHeld := hHeld2; clear hHeld2
              try simp only [Act.put, List.setIfInBounds_toArray, List.set_cons_zero, List.set_cons_succ]
              have k6 := cell_of_row w5 w1.heap.size 0 _ _ (0, 0) hov5
              have z6 := frozen_of_row w5 w1.heap.size 0 _ _ hov5
              simp only [List.getElem?_toArray, List.getElem?_cons_zero] at k6
              obtain ⟨va, vn, vc, hv'⟩ : ∃ a n c, v' = .slice a n c := by rcases hown5.2 with ⟨h, _⟩ | ⟨_, _, _, h, _⟩ <;> exact ⟨_, _, _, h⟩
              subst hv'
              have HST := hide (set1 (.slice va vn vc) hov5)
              have HO5 := hide (ownsRow_setCell_below hown5 (a := ⟨w1.heap.size, 0, none⟩) (by show w1.heap.size < _; omega) (.slice va vn vc))
              have HG5 := hide (chain (v' := .slice va vn vc) hgr hB4 hgr5 (fun b hb => (unhide HNB b hb).1))
              clear hown5 hgr5 hnil5 hov5 own5
              refine takeVal 12 (some 61) ?_ rfl (by kernel_rfl) (by kernel_rfl) (by kernel_rfl) rfl (fun _ _ _ h => h) (by rfl) (by assumption) ?_ ?_
              rotate_left
              · (intro w hSw; (try dsimp only at hSw); go_simp <;> with_reducible rfl)
              simp only [Act.put, List.setIfInBounds_toArray, List.set_cons_zero, List.set_cons_succ]
              refine wpAnyH_ready (rs := [13]) (by kernel_rfl) (by simp) ?_
              refine (AllReadyH.cons rfl (fun K hK => ?_) AllReadyH.nil)
              go_simp
              refine hK.out _ _ (by refine ⟨?_, ?_, ?_⟩ <;> (rw [World.cell?_setCell_other _ _ _ _ (by simp <;> omega)]; first | exact hHeld.1 | exact hHeld.2.1 | exact hHeld.2.2)) (fun hHeld2 => ?_)
              clear hK K hHeld
              have hHeld := hHeld2; clear hHeld2
              try simp only [Act.put, List.setIfInBounds_toArray, List.set_cons_zero, List.set_cons_succ]
              refine wpAnyH_done (by kernel_rfl) ?_ _
              go_wp2
              go_roundw
              case rel => exact ⟨k + 1, .slice va vn vc, by omega, by go_num, unhide HST, by unfold OwnF; rw [unhide HSU, loseTo_snoc, fcs_append, fcs_one]; exact unhide HO5, unhide HG5⟩
              case measure => simp [intOf]; omega
      · obtain rfl : k = l.length := by omega
        have hkr := cell_of_row wr w1.heap.size 0 _ _ (0, 0) hov
        simp only [List.getElem?_toArray, List.getElem?_cons_zero] at hkr
        have hrr : wr.heap[w.heap.size + 1]? = some (.cells #[.slice none 0 0] 26 (0, 0)) := (hgr.block _ (by omega) (by intro e; have := Option.some.inj e; omega)).trans ((hb2.block _ (by omega)).trans (unhide HR1))
        have r0 := cell_of_row wr (w.heap.size + 1) 0 _ _ (0, 0) hrr
        have z0 := frozen_of_row wr (w.heap.size + 1) 0 _ _ hrr
        simp only [List.getElem?_toArray, List.getElem?_cons_zero] at r0
        obtain ⟨va, vn, vc, hv'⟩ : ∃ a n c, ov = .slice a n c := by unfold OwnF at hown; rcases hown.2 with ⟨h, _⟩ | ⟨_, _, _, h, _⟩ <;> exact ⟨_, _, _, h⟩
        subst hv'
        have HRR := hide (set1 (.slice va vn vc) hrr)
        have HOE := hide (ownsRow_setCell_below hown (a := ⟨w.heap.size + 1, 0, none⟩) (by show w.heap.size + 1 < _; omega) (.slice va vn vc))
        have hBE : Below w.heap.size w wr := ⟨hgr.os.trans ((unhide B1).os ▸ hb2.os), hgr.tape.trans ((unhide B1).tape ▸ hb2.tape), hgr.output.trans ((unhide B1).output ▸ hb2.output), by have := (unhide B1).size; omega, fun q hq => (hgr.block q (by omega) (by intro e; have := Option.some.inj e; omega)).trans ((hb2.block q (by omega)).trans ((unhide B1).block q hq))⟩
        have HBE := hide (hBE.setCell (p := ⟨w.heap.size + 1, 0, none⟩) (by show w.heap.size ≤ w.heap.size + 1; omega) (.slice va vn vc))
        clear hown hrr hBE hov
        go_wp2
        refine bodyPost_ret (by rw [results_cell_tmp rfl]; simp [asAddr, run_loadVar_row _ _ _ _ _ _ _ (unhide HRR) Try.underlying26 rfl (by kernel_rfl)]; rfl) rfl ?_
        refine ⟨.slice va vn vc, by rw [unhide HDB], ?_, unhide HBE⟩
        rw [unhide HR]
        exact own_based (unhide HOE) (by omega)
end Go.Proofs.Ytnlcknklghalkaa
