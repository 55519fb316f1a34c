/- What the power leaves behind the first acts of a list: the program's answer and the specification's. -/
import Derived.Test.YtnlcknklghalkaaDoActsS
import Derived.Test.YtnlcknklghalkaaLoseS
import Derived.Test.YtnlcknklghalkaaLedger2
import Derived.Deep.Cut
namespace Go.Proofs.Ytnlcknklghalkaa
open Go.RowKit
open Plain
set_option linter.unusedVariables false
set_option linter.unusedSimpArgs false

def cutV (l : List Fl) (la : List Ac) (whole : Int) (left : List Int) : List Fl × Bool :=
  if whole < 0 ∨ (la.length : Int) < whole then ([], false)
  else if ((runActs l (la.take whole.toNat)).2 : Int) < whole then ([], false)
  else (lostL (runActs l (la.take whole.toNat)).1 left, diskB (runActs l (la.take whole.toNat)).1)
theorem OwnA.cut {B : Nat} {w : World} {v : Value} {l : List Ac} (h : OwnA B w v l) {k : Nat} (hk : k ≤ l.length) : ∃ a c, v = .slice a l.length c ∧ l.length ≤ c ∧ (a = none ∧ c = 0 ∨ ∃ g, a = some ⟨g, 0, none⟩) ∧ ReadA w (.slice a k c) (l.take k) := by
  have hlen : (l.take k).length = k := by rw [List.length_take]; omega
  unfold OwnA at h
  rcases h.2 with ⟨rfl, h0⟩ | ⟨g, c, cur, rfl, hb, hh, hlc, _⟩
  · refine ⟨none, 0, by rw [h0], by omega, .inl ⟨rfl, rfl⟩, none, 0, by rw [hlen], fun j f hf => ?_⟩
    rw [List.eq_nil_of_length_eq_zero h0] at hf
    simp at hf
  · refine ⟨_, _, rfl, hlc, .inr ⟨g, rfl⟩, _, _, by rw [hlen], fun j f hf => ⟨g, rfl, (h.lt _ rfl).2, ?_⟩⟩
    have hj : j < k := by have := (List.getElem?_eq_some_iff.1 hf).1; rwa [hlen] at this
    rw [List.getElem?_take_of_lt hj] at hf
    exact act_cells h hf (by omega)
theorem run_small {l : List Fl} (la : List Ac) (hs : SmallF 1048576 l) : SmallF 1048576 (runActs l la).1 := by
  rcases runActs_small (l := l) la with h | h
  · rw [h]; exact hs
  · have hdr := diskB_iff.1 h
    refine ⟨by have := hdr.1; omega, fun f hf => ?_⟩
    obtain ⟨p1, p2, _, _⟩ := fileB_parts ((DiskR_iff.1 hdr).2.1 f hf)
    refine ⟨?_, by omega⟩
    simp [nameB] at p1; omega

set_option maxHeartbeats 8000000 in
set_option maxRecDepth 100000 in
theorem impl_CutActs_any (l : List Fl) (la : List Ac) (whole : Int) (left : List Int) (v u x : Value) (B B2 B3 : Nat) (w : World) (hs : SmallF 1048576 l) (ha : SmallAs 1048576 la) (h : OwnF B w v l) (hu : OwnA B2 w u la) (hn : left.length ≤ 1048576) (hx : OwnI B3 w x left) :
    Calls Try.prog 11 #[.agg #[v], u, .int .i64 whole, x] w fun e w' => ∃ v', e = .returned (.tuple #[.agg #[v'], .bool (cutV l la whole left).2]) ∧ OwnF w.heap.size w' v' (cutV l la whole left).1 ∧ Below w.heap.size w w' := by
  obtain ⟨va, c, rfl, hcell⟩ := h.shape
  clear hcell
  have hal := ha.1
  obtain ⟨res, hres⟩ : ∃ r, r = cutV l la whole left := ⟨_, rfl⟩
  rw [← hres]
  have HRES := hide hres
  obtain ⟨xa, xc, hxs, _⟩ := hx.shape
  subst hxs
  have HXI := hide hx
  have HOW := hide h
  have HU := hide hu
  have HR := hide (heap_alloc2_new w (.cells #[.slice va l.length c] 26) (.cells #[.slice none 0 0] 26))
  have hb0 := ((Below.refl w.heap.size w).alloc (Nat.le_refl _) (.cells #[.slice va l.length c] 26)).alloc (by simp) (.cells #[.slice none 0 0] 26)
  have hsz : ((w.alloc (.cells #[.slice va l.length c] 26)).alloc (.cells #[.slice none 0 0] 26)).heap.size = w.heap.size + 2 := by simp
  have HDX := hide (show ((w.alloc (.cells #[.slice va l.length c] 26)).alloc (.cells #[.slice none 0 0] 26)).heap[w.heap.size]? = some (.cells #[.slice va l.length c] 26 (0, 0)) by rw [Below.heap_alloc _ _ _ (by simp)]; exact heap_alloc_new _ _)
  by_cases hw : whole < 0 ∨ (la.length : Int) < whole
  · obtain rfl : res = ([], false) := by rw [hres]; unfold cutV; rw [if_pos hw]
    obtain ⟨ua, uc, hus, _⟩ := (OwnA.cut hu (Nat.zero_le _))
    subst hus
    have BW := hide hb0
    have hwk := hw
    clear h hs ha hu hres hx hb0 hsz hw
    by_cases h1 : whole < 0
    · have r0 := row_cell (unhide HR)
      have z0 := row_frozen (unhide HR)
      have HRR := HR
      go_enter Try.func11, Try.ntmps11
      go_wp2
      refine bodyPost_ret (by rw [results_cell_tmp rfl]; simp [asAddr, run_loadVar_row _ _ _ _ _ _ _ (unhide HRR) Try.underlying26 rfl (by kernel_rfl)]; rfl) rfl ?_
      exact ⟨.slice none 0 0, rfl, World.ownsRow_nil _ _ _ _, unhide BW⟩
    · have h2 : (la.length : Int) < whole := hwk.resolve_left h1
      have r0 := row_cell (unhide HR)
      have z0 := row_frozen (unhide HR)
      have HRR := HR
      have h1a : decide (whole < 0) = false := by simpa using h1
      go_enter Try.func11, Try.ntmps11
      go_wp2
      refine bodyPost_ret (by rw [results_cell_tmp rfl]; simp [asAddr, run_loadVar_row _ _ _ _ _ _ _ (unhide HRR) Try.underlying26 rfl (by kernel_rfl)]; rfl) rfl ?_
      exact ⟨.slice none 0 0, rfl, World.ownsRow_nil _ _ _ _, unhide BW⟩
  obtain ⟨k, hk⟩ : ∃ k : Nat, whole = (k : Int) := ⟨whole.toNat, by omega⟩
  subst hk
  have hkl : k ≤ la.length := by omega
  obtain ⟨ua, uc, hus, huc, hform, hread⟩ := OwnA.cut hu hkl
  subst hus
  have hres2 : res = if ((runActs l (la.take k)).2 : Int) < (k : Int) then ([], false) else (lostL (runActs l (la.take k)).1 left, diskB (runActs l (la.take k)).1) := by rw [hres]; unfold cutV; rw [if_neg hw, Int.toNat_natCast]
  have HSM := hide (run_small (la.take k) hs)
  have hta : SmallAs 1048576 (la.take k) := ⟨by rw [List.length_take]; omega, fun f hf => ha.2 f (List.mem_of_mem_take hf)⟩
  have CS := hide (fun wx h hu => impl_DoActs_any l (la.take k) (.slice va l.length c) (.slice ua k uc) B wx hs hta h hu)
  generalize hrr : runActs l (la.take k) = rr at CS HSM hres2
  clear hrr
  obtain ⟨ans, n⟩ := rr
  simp only at CS HSM hres2
  obtain ⟨d, hd⟩ : ∃ d : Int, d = (n : Int) := ⟨_, rfl⟩
  rw [← hd] at CS hres2
  have HRES2 := hide hres2
  have HREAD := hide hread
  have CL := hide (fun v B wx (u : Value) (B2 : Nat) h h2 => impl_LoseDisk_any ans left v u B B2 wx (unhide HSM) h hn h2)
  have hik : (0 : Int) ≤ (k : Int) := by omega
  have hil : (k : Int) ≤ (la.length : Int) := by omega
  have hic : (k : Int) ≤ (uc : Int) := by omega
  have hkc : k ≤ uc := by omega
  have BB := hide hb0
  have hn0 : (0 : Int) ≤ d := by omega
  clear h hs ha hu hres hres2 hta hread hx hw hb0 hd HRES
  have h1a : decide ((k : Int) < 0) = false := by simp
  go_enter Try.func11, Try.ntmps11
  go_wp2
  generalize ((w.alloc (.cells #[.slice va l.length c] 26)).alloc (.cells #[.slice none 0 0] 26)) = w2 at *
  have hz2 : w.heap.size + 1 < w2.heap.size := by omega
  clear hsz
  have dx := row_cell (unhide HDX)
  replace HOW := hide (own_stays (unhide HOW) (unhide BB))
  replace HREAD := hide ((unhide HREAD).up (unhide BB))
  replace HXI := hide (OwnI.up (unhide HXI) (unhide BB))
  go_cut [10, 11] from 12 (fun s10 s11 wc => ∃ (bx : Nat) (vx : Value), s10 = .pointer (some ⟨bx, 0, none⟩) ∧ s11 = .int .i64 d ∧ wc.heap[bx]? = some (.cells #[vx] 26 (0, 0)) ∧ w2.heap.size ≤ bx ∧ OwnF w2.heap.size wc vx ans ∧ Below w2.heap.size w2 wc)
  case first =>
    refine wp_region_held_drew (S := fun w' => w'.cell? ⟨w.heap.size, 0, none⟩ = some (.slice va l.length c)) (by kernel_rfl) (dx) (fun hHeld => ?_)
    refine takeVal 0 (some 22) ?_ rfl (by kernel_rfl) (by kernel_rfl) (by kernel_rfl) rfl (fun _ _ _ h => h) (by rfl) (by assumption) ?_ ?_
    rotate_left
    · (intro w hSw; (try dsimp only at hSw); go_simp <;> with_reducible rfl)
    simp only [Act.put, List.setIfInBounds_toArray, List.set_cons_zero, List.set_cons_succ]
    refine takeVal 1 (some 23) ?_ rfl (by kernel_rfl) (by kernel_rfl) (by kernel_rfl) rfl (fun _ _ _ h => h) (by rfl) (by assumption) ?_ ?_
    rotate_left
    · (intro w hSw; (try dsimp only at hSw); go_simp <;> with_reducible rfl)
    simp only [Act.put, List.setIfInBounds_toArray, List.set_cons_zero, List.set_cons_succ]
    refine takeVal 2 (some 24) ?_ rfl (by kernel_rfl) (by kernel_rfl) (by kernel_rfl) rfl (fun _ _ _ h => h) (by rfl) (by assumption) ?_ ?_
    rotate_left
    · (intro w hSw; (try dsimp only at hSw); go_simp <;> with_reducible rfl)
    simp only [Act.put, List.setIfInBounds_toArray, List.set_cons_zero, List.set_cons_succ]
    refine takeVal 3 (some 25) ?_ rfl (by kernel_rfl) (by kernel_rfl) (by kernel_rfl) rfl (fun _ _ _ h => h) (by rfl) (by assumption) ?_ ?_
    rotate_left
    · (intro w hSw; (try dsimp only at hSw); go_simp <;> with_reducible rfl)
    simp only [Act.put, List.setIfInBounds_toArray, List.set_cons_zero, List.set_cons_succ]
    have hB0 : Below w2.heap.size w2 w2.drew := (Below.refl _ _).drew
    refine wpAnyH_ready (rs := [4, 8]) (by kernel_rfl) (by simp) ?_
    refine (AllReadyH.cons rfl (fun K hK => ?_) (AllReadyH.cons rfl (fun K hK => ?_) AllReadyH.nil))
    · skip
      go_simp
      refine (unhide CS (w2.drew) (own_stays (unhide HOW) (hB0)) ((unhide HREAD).up (hB0))).mono ?_
      rintro e v1w ⟨vv1, rfl, hans1, hbk1⟩
      go_wp2_with fail
      refine hK.out _ _ (cell_on (w := w2.drew) hbk1 hHeld) (fun hHeld2 => ?_)
      clear hK K hHeld
      have hHeld := hHeld2; clear hHeld2
      try simp only [Act.put, List.setIfInBounds_toArray, List.set_cons_zero, List.set_cons_succ]
      have hB1 : Below w2.heap.size w2 v1w := (hB0).trans (hbk1.mono (by have := (hB0).size; first | exact this | omega))
      have hz1 : w2.heap.size ≤ v1w.heap.size := (hB1).size
      refine takeVal 5 (some 21) ?_ rfl (by kernel_rfl) (by kernel_rfl) (by kernel_rfl) rfl (fun _ _ _ h => h) (by rfl) (by assumption) ?_ ?_
      rotate_left
      · (intro w hSw; (try dsimp only at hSw); go_simp <;> with_reducible rfl)
      simp only [Act.put, List.setIfInBounds_toArray, List.set_cons_zero, List.set_cons_succ]
      refine takeVal 6 (some 27) ?_ rfl (by kernel_rfl) (by kernel_rfl) (by kernel_rfl) rfl (fun _ _ _ h => h) (by rfl) (by assumption) ?_ ?_
      rotate_left
      · (intro w hSw; (try dsimp only at hSw); go_simp <;> with_reducible rfl)
      simp only [Act.put, List.setIfInBounds_toArray, List.set_cons_zero, List.set_cons_succ]
      refine takeVal 7 (some 28) ?_ rfl (by kernel_rfl) (by kernel_rfl) (by kernel_rfl) rfl (fun _ _ _ h => h) (by rfl) (by assumption) ?_ ?_
      rotate_left
      · (intro w hSw; (try dsimp only at hSw); go_simp <;> with_reducible rfl)
      simp only [Act.put, List.setIfInBounds_toArray, List.set_cons_zero, List.set_cons_succ]
      refine wpAnyH_ready (rs := [8]) (by kernel_rfl) (by simp) ?_
      refine (AllReadyH.cons rfl (fun K hK => ?_) AllReadyH.nil)
      go_simp
      refine hK.out _ _ (cell_on ((Below.refl _ _).alloc (Nat.le_refl _) _) hHeld) (fun hHeld2 => ?_)
      clear hK K hHeld
      have hHeld := hHeld2; clear hHeld2
      try simp only [Act.put, List.setIfInBounds_toArray, List.set_cons_zero, List.set_cons_succ]
      have hrw2 : (v1w.alloc (.cells #[.slice none 0 0] 26)).heap[v1w.heap.size]? = some (.cells #[.slice none 0 0] 26 (0, 0)) := heap_alloc_new v1w _
      have hbk2 : Below v1w.heap.size v1w (v1w.alloc (.cells #[.slice none 0 0] 26)) := ((Below.refl v1w.heap.size v1w).alloc (Nat.le_refl _) (.cells #[.slice none 0 0] 26))
      have hbs2 : w2.heap.size ≤ v1w.heap.size := (hB1).size
      obtain ⟨v2w, hwa2⟩ : ∃ W, W = (v1w.alloc (.cells #[.slice none 0 0] 26)) := ⟨_, rfl⟩
      rw [← hwa2] at hrw2 hbk2 hHeld ⊢
      clear hwa2
      have hB2 : Below w2.heap.size w2 v2w := (hB1).trans (hbk2.mono (by have := (hB1).size; first | exact this | omega))
      have hz2 : w2.heap.size ≤ v2w.heap.size := (hB2).size
      have hlt2 : v1w.heap.size < v2w.heap.size := row_lt hrw2
      have hans1_2 := own_stays (w := v1w) hans1 hbk2
      obtain ⟨xa, xn, xc, hvx⟩ := own_shape hans1_2
      subst hvx
      have r0 := row_cell hrw2
      have z0 := row_frozen hrw2
      have RW := hide (set1 (.slice xa xn xc) hrw2)
      have OW := hide (own_set (u := .slice xa xn xc) hans1_2 hrw2 (by decide))
      have BW := hide ((hB2).setCell (p := ⟨v1w.heap.size, 0, none⟩) (by show w2.heap.size ≤ v1w.heap.size; omega) (.slice xa xn xc))
      refine wpAnyH_ready (rs := [9]) (by kernel_rfl) (by simp) ?_
      refine AllReadyH.cons rfl (fun K hK => ?_) AllReadyH.nil
      go_simp
      refine hK.out _ _ ((World.cell?_setCell_other _ _ _ _ (by simp <;> omega)).trans hHeld) (fun hHeld2 => ?_)
      clear hK K hHeld
      have hHeld := hHeld2; clear hHeld2
      try simp only [Act.put, List.setIfInBounds_toArray, List.set_cons_zero, List.set_cons_succ]
      refine takeVal 10 (some 11) ?_ rfl (by kernel_rfl) (by kernel_rfl) (by kernel_rfl) rfl (fun _ _ _ h => h) (by rfl) (by assumption) ?_ ?_
      rotate_left
      · (intro w hSw; (try dsimp only at hSw); go_simp <;> with_reducible rfl)
      simp only [Act.put, List.setIfInBounds_toArray, List.set_cons_zero, List.set_cons_succ]
      refine wpAnyH_done (by kernel_rfl) ?_ _
      go_wp2
      go_meet
      case rel => exact ⟨v1w.heap.size, .slice xa xn xc, rfl, rfl, unhide RW, by omega, own_based (unhide OW) (by first | omega | exact Nat.le_refl _), unhide BW⟩
    · skip
      go_simp
      refine hK.out _ _ (cell_on ((Below.refl _ _).alloc (Nat.le_refl _) _) hHeld) (fun hHeld2 => ?_)
      clear hK K hHeld
      have hHeld := hHeld2; clear hHeld2
      try simp only [Act.put, List.setIfInBounds_toArray, List.set_cons_zero, List.set_cons_succ]
      have hrw3 : (w2.alloc (.cells #[.slice none 0 0] 26)).drew.heap[w2.heap.size]? = some (.cells #[.slice none 0 0] 26 (0, 0)) := heap_alloc_new w2 _
      have hbk3 : Below w2.heap.size w2 (w2.alloc (.cells #[.slice none 0 0] 26)).drew := ((Below.refl w2.heap.size w2).alloc (Nat.le_refl _) (.cells #[.slice none 0 0] 26)).drew
      have hbs3 : w2.heap.size ≤ w2.heap.size := Nat.le_refl _
      obtain ⟨v3w, hwa3⟩ : ∃ W, W = (w2.alloc (.cells #[.slice none 0 0] 26)).drew := ⟨_, rfl⟩
      rw [← hwa3] at hrw3 hbk3 hHeld ⊢
      clear hwa3
      have hB3 : Below w2.heap.size w2 v3w := hbk3
      have hz3 : w2.heap.size ≤ v3w.heap.size := (hB3).size
      have hlt3 : w2.heap.size < v3w.heap.size := row_lt hrw3
      refine wpAnyH_ready (rs := [4]) (by kernel_rfl) (by simp) ?_
      refine (AllReadyH.cons rfl (fun K hK => ?_) AllReadyH.nil)
      go_simp
      refine (unhide CS (v3w) (own_stays (unhide HOW) (hB3)) ((unhide HREAD).up (hB3))).mono ?_
      rintro e v4w ⟨vv4, rfl, hans4, hbk4⟩
      go_wp2_with fail
      refine hK.out _ _ (cell_on (w := v3w) hbk4 hHeld) (fun hHeld2 => ?_)
      clear hK K hHeld
      have hHeld := hHeld2; clear hHeld2
      try simp only [Act.put, List.setIfInBounds_toArray, List.set_cons_zero, List.set_cons_succ]
      have hB4 : Below w2.heap.size w2 v4w := (hB3).trans (hbk4.mono (by have := (hB3).size; first | exact this | omega))
      have hz4 : w2.heap.size ≤ v4w.heap.size := (hB4).size
      have hrw4 := row_up (w := v3w) hrw3 hbk4
      refine takeVal 5 (some 21) ?_ rfl (by kernel_rfl) (by kernel_rfl) (by kernel_rfl) rfl (fun _ _ _ h => h) (by rfl) (by assumption) ?_ ?_
      rotate_left
      · (intro w hSw; (try dsimp only at hSw); go_simp <;> with_reducible rfl)
      simp only [Act.put, List.setIfInBounds_toArray, List.set_cons_zero, List.set_cons_succ]
      refine takeVal 6 (some 27) ?_ rfl (by kernel_rfl) (by kernel_rfl) (by kernel_rfl) rfl (fun _ _ _ h => h) (by rfl) (by assumption) ?_ ?_
      rotate_left
      · (intro w hSw; (try dsimp only at hSw); go_simp <;> with_reducible rfl)
      simp only [Act.put, List.setIfInBounds_toArray, List.set_cons_zero, List.set_cons_succ]
      refine takeVal 7 (some 28) ?_ rfl (by kernel_rfl) (by kernel_rfl) (by kernel_rfl) rfl (fun _ _ _ h => h) (by rfl) (by assumption) ?_ ?_
      rotate_left
      · (intro w hSw; (try dsimp only at hSw); go_simp <;> with_reducible rfl)
      simp only [Act.put, List.setIfInBounds_toArray, List.set_cons_zero, List.set_cons_succ]
      obtain ⟨xa, xn, xc, hvx⟩ := own_shape hans4
      subst hvx
      have r0 := row_cell hrw4
      have z0 := row_frozen hrw4
      have RW := hide (set1 (.slice xa xn xc) hrw4)
      have OW := hide (own_set (u := .slice xa xn xc) hans4 hrw4 (by decide))
      have BW := hide ((hB4).setCell (p := ⟨w2.heap.size, 0, none⟩) (by show w2.heap.size ≤ w2.heap.size; omega) (.slice xa xn xc))
      refine wpAnyH_ready (rs := [9]) (by kernel_rfl) (by simp) ?_
      refine AllReadyH.cons rfl (fun K hK => ?_) AllReadyH.nil
      go_simp
      refine hK.out _ _ ((World.cell?_setCell_other _ _ _ _ (by simp <;> omega)).trans hHeld) (fun hHeld2 => ?_)
      clear hK K hHeld
      have hHeld := hHeld2; clear hHeld2
      try simp only [Act.put, List.setIfInBounds_toArray, List.set_cons_zero, List.set_cons_succ]
      refine takeVal 10 (some 11) ?_ rfl (by kernel_rfl) (by kernel_rfl) (by kernel_rfl) rfl (fun _ _ _ h => h) (by rfl) (by assumption) ?_ ?_
      rotate_left
      · (intro w hSw; (try dsimp only at hSw); go_simp <;> with_reducible rfl)
      simp only [Act.put, List.setIfInBounds_toArray, List.set_cons_zero, List.set_cons_succ]
      refine wpAnyH_done (by kernel_rfl) ?_ _
      go_wp2
      go_meet
      case rel => exact ⟨w2.heap.size, .slice xa xn xc, rfl, rfl, unhide RW, by omega, own_based (unhide OW) (by first | omega | exact Nat.le_refl _), unhide BW⟩
  case rest =>
    obtain ⟨bx, vx, rfl, rfl, hxx, hlo, hownx, hbx⟩ := hcut
    obtain ⟨w3, rfl⟩ : ∃ x, x = wc := ⟨_, rfl⟩
    have HR3 := hide (row_up (unhide HR) hbx)
    have HB3 := hide ((unhide BB).trans (hbx.mono (by omega)))
    have HXI3 := hide (OwnI.up (unhide HXI) hbx)
    have hsz3 : w2.heap.size ≤ w3.heap.size := hbx.size
    have qx := row_cell hxx
    have HOX := hide hownx
    have hxlt := row_lt hxx
    clear hbx hxx dx hownx
    by_cases hlt : d < (k : Int)
    · obtain rfl : res = ([], false) := by rw [unhide HRES2, if_pos hlt]
      have r0 := row_cell (unhide HR3)
      have z0 := row_frozen (unhide HR3)
      have HRR := hide (set1 (.slice none 0 0) (unhide HR3))
      go_wp2
      refine bodyPost_ret (by rw [results_cell_tmp rfl]; simp [asAddr, run_loadVar_row _ _ _ _ _ _ _ (unhide HRR) Try.underlying26 rfl (by kernel_rfl)]; rfl) rfl ?_
      exact ⟨.slice none 0 0, rfl, World.ownsRow_nil _ _ _ _, (unhide HB3).setCell (p := ⟨w.heap.size + 1, 0, none⟩) (by show w.heap.size ≤ w.heap.size + 1; omega) _⟩
    · obtain rfl : res = (lostL ans left, diskB ans) := by rw [unhide HRES2, if_neg hlt]
      have hlt' : decide (d < (k : Int)) = false := by simpa using hlt
      obtain ⟨ya, yn, yc, hov⟩ := own_shape (unhide HOX)
      subst hov
      go_wp2_with fail
      refine (unhide CL _ _ w3 _ _ (unhide HOX) (unhide HXI3)).mono ?_
      rintro e w4 ⟨v4, rfl, hown4, hb4⟩
      have HR4 := hide (row_up (unhide HR3) hb4)
      have r0 := row_cell (unhide HR4)
      have z0 := row_frozen (unhide HR4)
      obtain ⟨za, zn, zc, hv4⟩ := own_shape hown4
      subst hv4
      have HRR := hide (set1 (.slice za zn zc) (unhide HR4))
      have HOE := hide (own_set (u := .slice za zn zc) hown4 (unhide HR4) (by decide))
      have HBE := hide (((unhide HB3).trans (hb4.mono (by omega))).setCell (p := ⟨w.heap.size + 1, 0, none⟩) (by show w.heap.size ≤ w.heap.size + 1; omega) (.slice za zn zc))
      clear hown4 hb4
      go_wp2
      refine bodyPost_ret (by rw [results_cell_tmp rfl]; simp [asAddr, run_loadVar_row _ _ _ _ _ _ _ (unhide HRR) Try.underlying26 rfl (by kernel_rfl)]; rfl) rfl ?_
      exact ⟨.slice za zn zc, rfl, own_based (unhide HOE) (show w.heap.size ≤ w3.heap.size by omega), unhide HBE⟩

set_option maxHeartbeats 8000000 in
set_option maxRecDepth 100000 in
theorem spec_CutActs_any (l : List Fl) (la : List Ac) (whole : Int) (left : List Int) (v u x : Value) (B B2 B3 : Nat) (w : World) (hs : SmallF 1048576 l) (ha : SmallAs 1048576 la) (h : OwnF B w v l) (hu : OwnA B2 w u la) (hn : left.length ≤ 1048576) (hx : OwnI B3 w x left) :
    Calls Try.prog 12 #[.agg #[v], u, .int .i64 whole, x] w fun e w' => ∃ v', e = .returned (.tuple #[.agg #[v'], .bool (cutV l la whole left).2]) ∧ OwnF w.heap.size w' v' (cutV l la whole left).1 ∧ Below w.heap.size w w' := by
  obtain ⟨va, c, rfl, hcell⟩ := h.shape
  clear hcell
  have hal := ha.1
  obtain ⟨res, hres⟩ : ∃ r, r = cutV l la whole left := ⟨_, rfl⟩
  rw [← hres]
  have HRES := hide hres
  obtain ⟨xa, xc, hxs, _⟩ := hx.shape
  subst hxs
  have HXI := hide hx
  have HOW := hide h
  have HU := hide hu
  have HR := hide (heap_alloc2_new w (.cells #[.slice va l.length c] 26) (.cells #[.slice none 0 0] 26))
  have hb0 := ((Below.refl w.heap.size w).alloc (Nat.le_refl _) (.cells #[.slice va l.length c] 26)).alloc (by simp) (.cells #[.slice none 0 0] 26)
  have hsz : ((w.alloc (.cells #[.slice va l.length c] 26)).alloc (.cells #[.slice none 0 0] 26)).heap.size = w.heap.size + 2 := by simp
  have HDX := hide (show ((w.alloc (.cells #[.slice va l.length c] 26)).alloc (.cells #[.slice none 0 0] 26)).heap[w.heap.size]? = some (.cells #[.slice va l.length c] 26 (0, 0)) by rw [Below.heap_alloc _ _ _ (by simp)]; exact heap_alloc_new _ _)
  by_cases hw : whole < 0 ∨ (la.length : Int) < whole
  · obtain rfl : res = ([], false) := by rw [hres]; unfold cutV; rw [if_pos hw]
    obtain ⟨ua, uc, hus, _⟩ := (OwnA.cut hu (Nat.zero_le _))
    subst hus
    have BW := hide hb0
    have hwk := hw
    clear h hs ha hu hres hx hb0 hsz hw
    have r0 := row_cell (unhide HR)
    have z0 := row_frozen (unhide HR)
    have HRR := HR
    have hin : (decide ((0 : Int) ≤ whole) && decide (whole ≤ (la.length : Int))) = false := by
      rcases hwk with h | h
      · have : decide ((0 : Int) ≤ whole) = false := by simp; omega
        rw [this]; rfl
      · have : decide (whole ≤ (la.length : Int)) = false := by simp; omega
        rw [this]; simp
    have HIN := hide (fun wx => (l01In_any whole 0 (la.length : Int) wx))
    rw [hin] at HIN
    go_enter Try.func12, Try.ntmps12
    go_wp2_with (go_at_call 26; refine (unhide HIN _).mono ?_; rintro e wn ⟨rfl, hwn⟩; subst wn)
    refine bodyPost_ret (by rw [results_cell_tmp rfl]; simp [asAddr, run_loadVar_row _ _ _ _ _ _ _ (unhide HRR) Try.underlying26 rfl (by kernel_rfl)]; rfl) rfl ?_
    exact ⟨.slice none 0 0, rfl, World.ownsRow_nil _ _ _ _, unhide BW⟩
  obtain ⟨k, hk⟩ : ∃ k : Nat, whole = (k : Int) := ⟨whole.toNat, by omega⟩
  subst hk
  have hkl : k ≤ la.length := by omega
  obtain ⟨ua, uc, hus, huc, hform, hread⟩ := OwnA.cut hu hkl
  subst hus
  have hres2 : res = if ((runActs l (la.take k)).2 : Int) < (k : Int) then ([], false) else (lostL (runActs l (la.take k)).1 left, diskB (runActs l (la.take k)).1) := by rw [hres]; unfold cutV; rw [if_neg hw, Int.toNat_natCast]
  have HSM := hide (run_small (la.take k) hs)
  have hta : SmallAs 1048576 (la.take k) := ⟨by rw [List.length_take]; omega, fun f hf => ha.2 f (List.mem_of_mem_take hf)⟩
  have CS := hide (fun wx h hu => spec_DoActs_any l (la.take k) (.slice va l.length c) (.slice ua k uc) B wx hs hta h hu)
  generalize hrr : runActs l (la.take k) = rr at CS HSM hres2
  clear hrr
  obtain ⟨ans, n⟩ := rr
  simp only at CS HSM hres2
  obtain ⟨d, hd⟩ : ∃ d : Int, d = (n : Int) := ⟨_, rfl⟩
  rw [← hd] at CS hres2
  have HRES2 := hide hres2
  have HREAD := hide hread
  have CL := hide (fun v B wx (u : Value) (B2 : Nat) h h2 => spec_LoseDisk_any ans left v u B B2 wx (unhide HSM) h hn h2)
  have hik : (0 : Int) ≤ (k : Int) := by omega
  have hil : (k : Int) ≤ (la.length : Int) := by omega
  have hic : (k : Int) ≤ (uc : Int) := by omega
  have hkc : k ≤ uc := by omega
  have BB := hide hb0
  have hn0 : (0 : Int) ≤ d := by omega
  clear h hs ha hu hres hres2 hta hread hx hw hb0 hd HRES
  have hin : (decide ((0 : Int) ≤ (k : Int)) && decide ((k : Int) ≤ (la.length : Int))) = true := by simp; omega
  have HIN := hide (fun wx => (l01In_any (k : Int) 0 (la.length : Int) wx))
  rw [hin] at HIN
  go_enter Try.func12, Try.ntmps12
  go_wp2_with (go_at_call 26; refine (unhide HIN _).mono ?_; rintro e wn ⟨rfl, hwn⟩; subst wn)
  generalize ((w.alloc (.cells #[.slice va l.length c] 26)).alloc (.cells #[.slice none 0 0] 26)) = w2 at *
  have hz2 : w.heap.size + 1 < w2.heap.size := by omega
  clear hsz
  have dx := row_cell (unhide HDX)
  replace HOW := hide (own_stays (unhide HOW) (unhide BB))
  replace HREAD := hide ((unhide HREAD).up (unhide BB))
  replace HXI := hide (OwnI.up (unhide HXI) (unhide BB))
  go_cut [10, 11] from 12 (fun s10 s11 wc => ∃ (bx : Nat) (vx : Value), s10 = .pointer (some ⟨bx, 0, none⟩) ∧ s11 = .int .i64 d ∧ wc.heap[bx]? = some (.cells #[vx] 26 (0, 0)) ∧ w2.heap.size ≤ bx ∧ OwnF w2.heap.size wc vx ans ∧ Below w2.heap.size w2 wc)
  case first =>
    refine wp_region_held_drew (S := fun w' => w'.cell? ⟨w.heap.size, 0, none⟩ = some (.slice va l.length c)) (by kernel_rfl) (dx) (fun hHeld => ?_)
    refine takeVal 0 (some 19) ?_ rfl (by kernel_rfl) (by kernel_rfl) (by kernel_rfl) rfl (fun _ _ _ h => h) (by rfl) (by assumption) ?_ ?_
    rotate_left
    · (intro w hSw; (try dsimp only at hSw); go_simp <;> with_reducible rfl)
    simp only [Act.put, List.setIfInBounds_toArray, List.set_cons_zero, List.set_cons_succ]
    refine takeVal 1 (some 20) ?_ rfl (by kernel_rfl) (by kernel_rfl) (by kernel_rfl) rfl (fun _ _ _ h => h) (by rfl) (by assumption) ?_ ?_
    rotate_left
    · (intro w hSw; (try dsimp only at hSw); go_simp <;> with_reducible rfl)
    simp only [Act.put, List.setIfInBounds_toArray, List.set_cons_zero, List.set_cons_succ]
    refine takeVal 2 (some 21) ?_ rfl (by kernel_rfl) (by kernel_rfl) (by kernel_rfl) rfl (fun _ _ _ h => h) (by rfl) (by assumption) ?_ ?_
    rotate_left
    · (intro w hSw; (try dsimp only at hSw); go_simp <;> with_reducible rfl)
    simp only [Act.put, List.setIfInBounds_toArray, List.set_cons_zero, List.set_cons_succ]
    refine takeVal 3 (some 22) ?_ rfl (by kernel_rfl) (by kernel_rfl) (by kernel_rfl) rfl (fun _ _ _ h => h) (by rfl) (by assumption) ?_ ?_
    rotate_left
    · (intro w hSw; (try dsimp only at hSw); go_simp <;> with_reducible rfl)
    simp only [Act.put, List.setIfInBounds_toArray, List.set_cons_zero, List.set_cons_succ]
    have hB0 : Below w2.heap.size w2 w2.drew := (Below.refl _ _).drew
    refine wpAnyH_ready (rs := [4, 8]) (by kernel_rfl) (by simp) ?_
    refine (AllReadyH.cons rfl (fun K hK => ?_) (AllReadyH.cons rfl (fun K hK => ?_) AllReadyH.nil))
    · skip
      go_simp
      refine (unhide CS (w2.drew) (own_stays (unhide HOW) (hB0)) ((unhide HREAD).up (hB0))).mono ?_
      rintro e v1w ⟨vv1, rfl, hans1, hbk1⟩
      go_wp2_with fail
      refine hK.out _ _ (cell_on (w := w2.drew) hbk1 hHeld) (fun hHeld2 => ?_)
      clear hK K hHeld
      have hHeld := hHeld2; clear hHeld2
      try simp only [Act.put, List.setIfInBounds_toArray, List.set_cons_zero, List.set_cons_succ]
      have hB1 : Below w2.heap.size w2 v1w := (hB0).trans (hbk1.mono (by have := (hB0).size; first | exact this | omega))
      have hz1 : w2.heap.size ≤ v1w.heap.size := (hB1).size
      refine takeVal 5 (some 18) ?_ rfl (by kernel_rfl) (by kernel_rfl) (by kernel_rfl) rfl (fun _ _ _ h => h) (by rfl) (by assumption) ?_ ?_
      rotate_left
      · (intro w hSw; (try dsimp only at hSw); go_simp <;> with_reducible rfl)
      simp only [Act.put, List.setIfInBounds_toArray, List.set_cons_zero, List.set_cons_succ]
      refine takeVal 6 (some 24) ?_ rfl (by kernel_rfl) (by kernel_rfl) (by kernel_rfl) rfl (fun _ _ _ h => h) (by rfl) (by assumption) ?_ ?_
      rotate_left
      · (intro w hSw; (try dsimp only at hSw); go_simp <;> with_reducible rfl)
      simp only [Act.put, List.setIfInBounds_toArray, List.set_cons_zero, List.set_cons_succ]
      refine takeVal 7 (some 25) ?_ rfl (by kernel_rfl) (by kernel_rfl) (by kernel_rfl) rfl (fun _ _ _ h => h) (by rfl) (by assumption) ?_ ?_
      rotate_left
      · (intro w hSw; (try dsimp only at hSw); go_simp <;> with_reducible rfl)
      simp only [Act.put, List.setIfInBounds_toArray, List.set_cons_zero, List.set_cons_succ]
      refine wpAnyH_ready (rs := [8]) (by kernel_rfl) (by simp) ?_
      refine (AllReadyH.cons rfl (fun K hK => ?_) AllReadyH.nil)
      go_simp
      refine hK.out _ _ (cell_on ((Below.refl _ _).alloc (Nat.le_refl _) _) hHeld) (fun hHeld2 => ?_)
      clear hK K hHeld
      have hHeld := hHeld2; clear hHeld2
      try simp only [Act.put, List.setIfInBounds_toArray, List.set_cons_zero, List.set_cons_succ]
      have hrw2 : (v1w.alloc (.cells #[.slice none 0 0] 26)).heap[v1w.heap.size]? = some (.cells #[.slice none 0 0] 26 (0, 0)) := heap_alloc_new v1w _
      have hbk2 : Below v1w.heap.size v1w (v1w.alloc (.cells #[.slice none 0 0] 26)) := ((Below.refl v1w.heap.size v1w).alloc (Nat.le_refl _) (.cells #[.slice none 0 0] 26))
      have hbs2 : w2.heap.size ≤ v1w.heap.size := (hB1).size
      obtain ⟨v2w, hwa2⟩ : ∃ W, W = (v1w.alloc (.cells #[.slice none 0 0] 26)) := ⟨_, rfl⟩
      rw [← hwa2] at hrw2 hbk2 hHeld ⊢
      clear hwa2
      have hB2 : Below w2.heap.size w2 v2w := (hB1).trans (hbk2.mono (by have := (hB1).size; first | exact this | omega))
      have hz2 : w2.heap.size ≤ v2w.heap.size := (hB2).size
      have hlt2 : v1w.heap.size < v2w.heap.size := row_lt hrw2
      have hans1_2 := own_stays (w := v1w) hans1 hbk2
      obtain ⟨xa, xn, xc, hvx⟩ := own_shape hans1_2
      subst hvx
      have r0 := row_cell hrw2
      have z0 := row_frozen hrw2
      have RW := hide (set1 (.slice xa xn xc) hrw2)
      have OW := hide (own_set (u := .slice xa xn xc) hans1_2 hrw2 (by decide))
      have BW := hide ((hB2).setCell (p := ⟨v1w.heap.size, 0, none⟩) (by show w2.heap.size ≤ v1w.heap.size; omega) (.slice xa xn xc))
      refine wpAnyH_ready (rs := [9]) (by kernel_rfl) (by simp) ?_
      refine AllReadyH.cons rfl (fun K hK => ?_) AllReadyH.nil
      go_simp
      refine hK.out _ _ ((World.cell?_setCell_other _ _ _ _ (by simp <;> omega)).trans hHeld) (fun hHeld2 => ?_)
      clear hK K hHeld
      have hHeld := hHeld2; clear hHeld2
      try simp only [Act.put, List.setIfInBounds_toArray, List.set_cons_zero, List.set_cons_succ]
      refine takeVal 10 (some 11) ?_ rfl (by kernel_rfl) (by kernel_rfl) (by kernel_rfl) rfl (fun _ _ _ h => h) (by rfl) (by assumption) ?_ ?_
      rotate_left
      · (intro w hSw; (try dsimp only at hSw); go_simp <;> with_reducible rfl)
      simp only [Act.put, List.setIfInBounds_toArray, List.set_cons_zero, List.set_cons_succ]
      refine wpAnyH_done (by kernel_rfl) ?_ _
      go_wp2
      go_meet
      case rel => exact ⟨v1w.heap.size, .slice xa xn xc, rfl, rfl, unhide RW, by omega, own_based (unhide OW) (by first | omega | exact Nat.le_refl _), unhide BW⟩
    · skip
      go_simp
      refine hK.out _ _ (cell_on ((Below.refl _ _).alloc (Nat.le_refl _) _) hHeld) (fun hHeld2 => ?_)
      clear hK K hHeld
      have hHeld := hHeld2; clear hHeld2
      try simp only [Act.put, List.setIfInBounds_toArray, List.set_cons_zero, List.set_cons_succ]
      have hrw3 : (w2.alloc (.cells #[.slice none 0 0] 26)).drew.heap[w2.heap.size]? = some (.cells #[.slice none 0 0] 26 (0, 0)) := heap_alloc_new w2 _
      have hbk3 : Below w2.heap.size w2 (w2.alloc (.cells #[.slice none 0 0] 26)).drew := ((Below.refl w2.heap.size w2).alloc (Nat.le_refl _) (.cells #[.slice none 0 0] 26)).drew
      have hbs3 : w2.heap.size ≤ w2.heap.size := Nat.le_refl _
      obtain ⟨v3w, hwa3⟩ : ∃ W, W = (w2.alloc (.cells #[.slice none 0 0] 26)).drew := ⟨_, rfl⟩
      rw [← hwa3] at hrw3 hbk3 hHeld ⊢
      clear hwa3
      have hB3 : Below w2.heap.size w2 v3w := hbk3
      have hz3 : w2.heap.size ≤ v3w.heap.size := (hB3).size
      have hlt3 : w2.heap.size < v3w.heap.size := row_lt hrw3
      refine wpAnyH_ready (rs := [4]) (by kernel_rfl) (by simp) ?_
      refine (AllReadyH.cons rfl (fun K hK => ?_) AllReadyH.nil)
      go_simp
      refine (unhide CS (v3w) (own_stays (unhide HOW) (hB3)) ((unhide HREAD).up (hB3))).mono ?_
      rintro e v4w ⟨vv4, rfl, hans4, hbk4⟩
      go_wp2_with fail
      refine hK.out _ _ (cell_on (w := v3w) hbk4 hHeld) (fun hHeld2 => ?_)
      clear hK K hHeld
      have hHeld := hHeld2; clear hHeld2
      try simp only [Act.put, List.setIfInBounds_toArray, List.set_cons_zero, List.set_cons_succ]
      have hB4 : Below w2.heap.size w2 v4w := (hB3).trans (hbk4.mono (by have := (hB3).size; first | exact this | omega))
      have hz4 : w2.heap.size ≤ v4w.heap.size := (hB4).size
      have hrw4 := row_up (w := v3w) hrw3 hbk4
      refine takeVal 5 (some 18) ?_ rfl (by kernel_rfl) (by kernel_rfl) (by kernel_rfl) rfl (fun _ _ _ h => h) (by rfl) (by assumption) ?_ ?_
      rotate_left
      · (intro w hSw; (try dsimp only at hSw); go_simp <;> with_reducible rfl)
      simp only [Act.put, List.setIfInBounds_toArray, List.set_cons_zero, List.set_cons_succ]
      refine takeVal 6 (some 24) ?_ rfl (by kernel_rfl) (by kernel_rfl) (by kernel_rfl) rfl (fun _ _ _ h => h) (by rfl) (by assumption) ?_ ?_
      rotate_left
      · (intro w hSw; (try dsimp only at hSw); go_simp <;> with_reducible rfl)
      simp only [Act.put, List.setIfInBounds_toArray, List.set_cons_zero, List.set_cons_succ]
      refine takeVal 7 (some 25) ?_ rfl (by kernel_rfl) (by kernel_rfl) (by kernel_rfl) rfl (fun _ _ _ h => h) (by rfl) (by assumption) ?_ ?_
      rotate_left
      · (intro w hSw; (try dsimp only at hSw); go_simp <;> with_reducible rfl)
      simp only [Act.put, List.setIfInBounds_toArray, List.set_cons_zero, List.set_cons_succ]
      obtain ⟨xa, xn, xc, hvx⟩ := own_shape hans4
      subst hvx
      have r0 := row_cell hrw4
      have z0 := row_frozen hrw4
      have RW := hide (set1 (.slice xa xn xc) hrw4)
      have OW := hide (own_set (u := .slice xa xn xc) hans4 hrw4 (by decide))
      have BW := hide ((hB4).setCell (p := ⟨w2.heap.size, 0, none⟩) (by show w2.heap.size ≤ w2.heap.size; omega) (.slice xa xn xc))
      refine wpAnyH_ready (rs := [9]) (by kernel_rfl) (by simp) ?_
      refine AllReadyH.cons rfl (fun K hK => ?_) AllReadyH.nil
      go_simp
      refine hK.out _ _ ((World.cell?_setCell_other _ _ _ _ (by simp <;> omega)).trans hHeld) (fun hHeld2 => ?_)
      clear hK K hHeld
      have hHeld := hHeld2; clear hHeld2
      try simp only [Act.put, List.setIfInBounds_toArray, List.set_cons_zero, List.set_cons_succ]
      refine takeVal 10 (some 11) ?_ rfl (by kernel_rfl) (by kernel_rfl) (by kernel_rfl) rfl (fun _ _ _ h => h) (by rfl) (by assumption) ?_ ?_
      rotate_left
      · (intro w hSw; (try dsimp only at hSw); go_simp <;> with_reducible rfl)
      simp only [Act.put, List.setIfInBounds_toArray, List.set_cons_zero, List.set_cons_succ]
      refine wpAnyH_done (by kernel_rfl) ?_ _
      go_wp2
      go_meet
      case rel => exact ⟨w2.heap.size, .slice xa xn xc, rfl, rfl, unhide RW, by omega, own_based (unhide OW) (by first | omega | exact Nat.le_refl _), unhide BW⟩
  case rest =>
    obtain ⟨bx, vx, rfl, rfl, hxx, hlo, hownx, hbx⟩ := hcut
    obtain ⟨w3, rfl⟩ : ∃ x, x = wc := ⟨_, rfl⟩
    have HR3 := hide (row_up (unhide HR) hbx)
    have HB3 := hide ((unhide BB).trans (hbx.mono (by omega)))
    have HXI3 := hide (OwnI.up (unhide HXI) hbx)
    have hsz3 : w2.heap.size ≤ w3.heap.size := hbx.size
    have qx := row_cell hxx
    have HOX := hide hownx
    have hxlt := row_lt hxx
    clear hbx hxx dx hownx
    by_cases hlt : d < (k : Int)
    · obtain rfl : res = ([], false) := by rw [unhide HRES2, if_pos hlt]
      have r0 := row_cell (unhide HR3)
      have z0 := row_frozen (unhide HR3)
      have HRR := hide (set1 (.slice none 0 0) (unhide HR3))
      go_wp2
      refine bodyPost_ret (by rw [results_cell_tmp rfl]; simp [asAddr, run_loadVar_row _ _ _ _ _ _ _ (unhide HRR) Try.underlying26 rfl (by kernel_rfl)]; rfl) rfl ?_
      exact ⟨.slice none 0 0, rfl, World.ownsRow_nil _ _ _ _, (unhide HB3).setCell (p := ⟨w.heap.size + 1, 0, none⟩) (by show w.heap.size ≤ w.heap.size + 1; omega) _⟩
    · obtain rfl : res = (lostL ans left, diskB ans) := by rw [unhide HRES2, if_neg hlt]
      have hlt' : decide (d < (k : Int)) = false := by simpa using hlt
      obtain ⟨ya, yn, yc, hov⟩ := own_shape (unhide HOX)
      subst hov
      go_wp2_with fail
      refine (unhide CL _ _ w3 _ _ (unhide HOX) (unhide HXI3)).mono ?_
      rintro e w4 ⟨v4, rfl, hown4, hb4⟩
      have HR4 := hide (row_up (unhide HR3) hb4)
      have r0 := row_cell (unhide HR4)
      have z0 := row_frozen (unhide HR4)
      obtain ⟨za, zn, zc, hv4⟩ := own_shape hown4
      subst hv4
      have HRR := hide (set1 (.slice za zn zc) (unhide HR4))
      have HOE := hide (own_set (u := .slice za zn zc) hown4 (unhide HR4) (by decide))
      have HBE := hide (((unhide HB3).trans (hb4.mono (by omega))).setCell (p := ⟨w.heap.size + 1, 0, none⟩) (by show w.heap.size ≤ w.heap.size + 1; omega) (.slice za zn zc))
      clear hown4 hb4
      go_wp2
      refine bodyPost_ret (by rw [results_cell_tmp rfl]; simp [asAddr, run_loadVar_row _ _ _ _ _ _ _ (unhide HRR) Try.underlying26 rfl (by kernel_rfl)]; rfl) rfl ?_
      exact ⟨.slice za zn zc, rfl, own_based (unhide HOE) (show w.heap.size ≤ w3.heap.size by omega), unhide HBE⟩
end Go.Proofs.Ytnlcknklghalkaa
