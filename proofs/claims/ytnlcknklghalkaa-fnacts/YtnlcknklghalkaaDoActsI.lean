/- Acts one behind the other: the program's answer. -/
import Derived.Test.YtnlcknklghalkaaDoActI
import Derived.Test.YtnlcknklghalkaaCopiedDisk
import Derived.Test.YtnlcknklghalkaaActS
import Derived.Test.YtnlcknklghalkaaRunPlain
namespace Go.Proofs.Ytnlcknklghalkaa
open Go.RowKit Go.Maps
open Plain
set_option linter.unusedVariables false
set_option linter.unusedSimpArgs false

/-- A row of acts that is read. -/
def ReadA (w : World) (v : Value) (l : List Ac) : Prop := ∃ a c, v = .slice a l.length c ∧ ∀ (k : Nat) (x : Ac), l[k]? = some x →
  ∃ g, a = some ⟨g, 0, none⟩ ∧ g < w.heap.size ∧ w.cell? ⟨g, k * 4, none⟩ = some (.int .i64 x.kind) ∧ w.cell? ⟨g, k * 4 + 1, none⟩ = some (.string x.name) ∧ w.cell? ⟨g, k * 4 + 2, none⟩ = some (.string x.text) ∧ w.cell? ⟨g, k * 4 + 3, none⟩ = some (.string x.to)
theorem OwnA.read {B : Nat} {w : World} {v : Value} {l : List Ac} (h : OwnA B w v l) : ReadA w v l := by
  unfold OwnA at h
  rcases h.2 with ⟨rfl, h0⟩ | ⟨g, c, cur, rfl, hb, hh, _⟩
  · refine ⟨none, 0, by rw [h0], fun k f hf => ?_⟩
    rw [List.eq_nil_of_length_eq_zero h0] at hf
    simp at hf
  · refine ⟨_, _, rfl, fun k f hf => ⟨g, rfl, (h.lt _ rfl).2, act_cells h hf ?_⟩⟩
    exact (List.getElem?_eq_some_iff.1 hf).1
theorem ReadA.up {w w' : World} {v : Value} {l : List Ac} (h : ReadA w v l) (hb : Below w.heap.size w w') : ReadA w' v l := by
  obtain ⟨a, c, rfl, hc⟩ := h
  refine ⟨a, c, rfl, fun k x hx => ?_⟩
  obtain ⟨g, h1, h2, c0, c1, c2, c3⟩ := hc k x hx
  exact ⟨g, h1, Nat.lt_of_lt_of_le h2 hb.size, cell_on hb c0, cell_on hb c1, cell_on hb c2, cell_on hb c3⟩

set_option maxHeartbeats 4000000 in
set_option maxRecDepth 100000 in
theorem impl_DoActs_any (l : List Fl) (la : List Ac) (v u : Value) (B : Nat) (w : World) (hs : SmallF 1048576 l) (ha : SmallAs 1048576 la) (h : OwnF B w v l) (hu : ReadA w u la) :
    Calls Try.prog 6 #[.agg #[v], u] w fun e w' => ∃ v', e = .returned (.tuple #[.agg #[v'], .int .i64 ((runActs l la).2 : Int)]) ∧ OwnF w.heap.size w' v' (runActs l la).1 ∧ Below w.heap.size w w' := by
  obtain ⟨va, c, rfl, hcell⟩ := h.shape
  obtain ⟨ua, uc, rfl, hacts⟩ := hu
  clear hcell
  have hal := ha.1
  have HSA := hide ha
  have HAC := hide hacts
  have HS := hide hs
  have HO := hide h
  have HRUN := hide (show runActs l la = runActs l la from rfl)
  obtain ⟨res, hres⟩ : ∃ r, r = runActs l la := ⟨_, rfl⟩
  rw [← hres]
  replace HRUN := hide hres
  clear h hs ha hacts hres
  go_enter Try.func6, Try.ntmps6
  go_wp2_with fail
  have hb0 := ((Below.refl w.heap.size w).alloc (Nat.le_refl _) (.cells #[.slice va l.length c] 26)).alloc (by simp) (.cells #[.slice none 0 0] 26)
  have e0 : ((w.alloc (.cells #[.slice va l.length c] 26)).alloc (.cells #[.slice none 0 0] 26)).cell? ⟨w.heap.size, 0, none⟩ = some (.slice va l.length c) := by go_simp
  have hr : ((w.alloc (.cells #[.slice va l.length c] 26)).alloc (.cells #[.slice none 0 0] 26)).heap[w.heap.size + 1]? = some (.cells #[.slice none 0 0] 26 (0, 0)) := heap_alloc2_new _ _ _
  have hsz : ((w.alloc (.cells #[.slice va l.length c] 26)).alloc (.cells #[.slice none 0 0] 26)).heap.size = w.heap.size + 2 := by simp
  generalize ((w.alloc (.cells #[.slice va l.length c] 26)).alloc (.cells #[.slice none 0 0] 26)) = W at *
  refine (impl_DiskOk_any l _ B W (unhide HS) (own_stays (unhide HO) hb0)).mono ?_
  rintro e w1 ⟨rfl, hb1⟩
  have HO1 := hide (own_stays (own_stays (unhide HO) hb0) hb1)
  have e1 := cell_on hb1 e0
  have HR := hide (row_on hb1 hr (by omega))
  have BB := hide (hb0.trans (hb1.mono (by omega)))
  have hsz1 : w.heap.size + 2 ≤ w1.heap.size := by have := hb1.size; omega
  clear hb0 hb1 hr e0
  cases hd : diskB l
  · have hre : res = (l, 0) := by rw [unhide HRUN]; exact runActs_bad hd
    subst hre
    clear hd
    go_wp2_with fail
    refine (copiedDisk_any l _ B w1 (unhide HS) (unhide HO1)).mono ?_
    rintro e w4 ⟨v4, rfl, hown4, hb4⟩
    have hR4 := row_on hb4 (unhide HR) (by omega)
    have r0 := cell_of_row w4 (w.heap.size + 1) 0 _ _ (0, 0) hR4
    have z0 := frozen_of_row w4 (w.heap.size + 1) 0 _ _ hR4
    simp only [List.getElem?_toArray, List.getElem?_cons_zero] at r0
    obtain ⟨xa, xn, xc, hv'⟩ : ∃ a n c, v4 = .slice a n c := by unfold OwnF at hown4; rcases hown4.2 with ⟨h, _⟩ | ⟨_, _, _, h, _⟩ <;> exact ⟨_, _, _, h⟩
    subst hv'
    have HRR := hide (set1 (.slice xa xn xc) hR4)
    have HOE := hide (ownsRow_setCell_below hown4 (a := ⟨w.heap.size + 1, 0, none⟩) (by show w.heap.size + 1 < _; omega) (.slice xa xn xc))
    have HB4 := hide (((unhide BB).trans (hb4.mono (by omega))).setCell (p := ⟨w.heap.size + 1, 0, none⟩) (by show w.heap.size ≤ w.heap.size + 1; omega) (.slice xa xn xc))
    clear hR4 hown4 hb4
    go_wp2
    refine bodyPost_ret (by rw [results_cell_tmp rfl]; simp [asAddr, run_loadVar_row _ _ _ _ _ _ _ (unhide HRR) Try.underlying26 rfl (by kernel_rfl)]; rfl) rfl ?_
    exact ⟨.slice xa xn xc, rfl, own_based (unhide HOE) (by omega), unhide HB4⟩
  · have HD := hide (diskB_iff.1 hd)
    have HDB := hide hd
    clear hd
    go_wp2_with fail
    refine (shelfOf_any l _ B w1 (unhide HD) (unhide HO1)).mono ?_
    rintro e w2 ⟨b, s0, rfl, hfs, hS2, hb2⟩
    replace HR := hide (row_on hb2 (unhide HR) (by omega))
    replace BB := hide ((unhide BB).trans (hb2.mono (by omega)))
    have hsz2 : w1.heap.size ≤ w2.heap.size := hb2.size
    have HST := hide (show stepsL l (la.take 0) = some (files s0) by rw [hfs]; rfl)
    have HS2 := hide hS2
    clear hS2 hfs hb2
    go_wp2
    go_loopw [7] (fun i wr => ∃ (k : Nat) (s : List (Fl × Nat)), k ≤ la.length ∧ i = .int .i64 k ∧ stepsL l (la.take k) = some (files s) ∧ Shelf w1.heap.size wr b s ∧ Below w1.heap.size w2 wr) (fun i _ => la.length - (intOf i).toNat)
    case atStart => exact ⟨0, s0, Nat.zero_le _, rfl, unhide HST, unhide HS2, Below.refl _ _⟩
    case round =>
      obtain ⟨k, s, hk, rfl, hst, hS, hbel⟩ := hrel
      have hdk := stepsL_right (unhide HDB) hst
      have HRr := hide (row_on hbel (unhide HR) (by omega))
      have HBr := hide ((unhide BB).trans (hbel.mono (by omega)))
      have hszr : w2.heap.size ≤ wr.heap.size := hbel.size
      have HSr := hide hS
      have HSTr := hide hst
      have HDK := hide hdk
      by_cases hlt : k < la.length
      · have hgk : la[k]? = some la[k] := List.getElem?_eq_getElem hlt
        obtain ⟨g, hga, hgl, c0, c1, c2, c3⟩ := unhide HAC k la[k] hgk
        rw [← (unhide HBr).cell (p := ⟨g, _, none⟩) hgl] at c0 c1 c2 c3
        subst hga
        have hsm := (unhide HSA).2 la[k] (List.getElem_mem hlt)
        have htk := List.take_succ_eq_append_getElem hlt
        have hrn : ∀ (x : Ac), la[k]? = some x → doneL (files s) x = none → res = (files s, k) := fun x hx hn => by rw [unhide HRUN]; exact runActs_stop (unhide HSTr) hx hn
        generalize la[k] = x at *
        have hsn := stepsL_snoc (a := x) hst
        rw [← htk] at hsn
        have HSN := hide hsn
        have HRN := hide (hrn x hgk)
        have HDOA := hide (do_any x s b w1.heap.size wr hsm.1 hsm.2.1 hsm.2.2 hS (diskB_iff.1 hdk))
        have HDL := hide (doneL_is (a := x) hdk)
        obtain ⟨kd, nm, tx, to⟩ := x
        simp only at c0 c1 c2 c3
        have hik : (0 : Int) ≤ (k : Int) := by omega
        have hil : (k : Int) < (la.length : Int) := by omega
        clear hsn hrn htk hsm hgk hst hS hdk
        go_wp2_with fail
        refine (unhide HDOA).mono ?_
        rintro e w3 ⟨rfl, s', hS3, hfs3, hb3⟩
        rw [← unhide HDL] at hfs3 ⊢
        have HS3 := hide hS3
        have HF3 := hide hfs3
        have HR3 := hide (row_on hb3 (unhide HRr) (by omega))
        have HB3 := hide ((unhide HBr).trans (hb3.mono (by omega)))
        have HB13 := hide (hbel.trans hb3)
        have hsz3 : wr.heap.size ≤ w3.heap.size := hb3.size
        clear hS3 hfs3 hb3 c0 c1 c2 c3
        cases hdn : doneL (files s) ⟨kd, nm, tx, to⟩ with
        | none =>
          have hf3 : files s' = files s := by have := unhide HF3; rw [hdn] at this; exact this
          have hre : res = (files s', k) := by rw [hf3]; exact unhide HRN hdn
          have HDR := hide (show DiskR (files s') by rw [hf3]; exact diskB_iff.1 (unhide HDK))
          clear hdn hf3
          have HRE := hide hre
          clear hre
          go_wp2_with fail
          refine (sdisk_any s' b _ w3 (unhide HS3) (unhide HDR)).mono ?_
          rintro e w4 ⟨v4, rfl, hown4, hb4⟩
          have hR4 := row_on hb4 (unhide HR3) (by omega)
          have r0 := cell_of_row w4 (w.heap.size + 1) 0 _ _ (0, 0) hR4
          have z0 := frozen_of_row w4 (w.heap.size + 1) 0 _ _ hR4
          simp only [List.getElem?_toArray, List.getElem?_cons_zero] at r0
          obtain ⟨xa, xn, xc, hv'⟩ : ∃ a n c, v4 = .slice a n c := by unfold OwnF at hown4; rcases hown4.2 with ⟨h, _⟩ | ⟨_, _, _, h, _⟩ <;> exact ⟨_, _, _, h⟩
          subst hv'
          have HRR := hide (set1 (.slice xa xn xc) hR4)
          have HOE := hide (ownsRow_setCell_below hown4 (a := ⟨w.heap.size + 1, 0, none⟩) (by show w.heap.size + 1 < _; omega) (.slice xa xn xc))
          have HB4 := hide (((unhide HB3).trans (hb4.mono (by omega))).setCell (p := ⟨w.heap.size + 1, 0, none⟩) (by show w.heap.size ≤ w.heap.size + 1; omega) (.slice xa xn xc))
          clear hR4 hown4 hb4
          go_wp2
          refine bodyPost_ret (by rw [results_cell_tmp rfl]; simp [asAddr, run_loadVar_row _ _ _ _ _ _ _ (unhide HRR) Try.underlying26 rfl (by kernel_rfl)]; rfl) rfl ?_
          refine ⟨.slice xa xn xc, by rw [unhide HRE], ?_, unhide HB4⟩
          rw [unhide HRE]
          exact own_based (unhide HOE) (by omega)
        | some l' =>
          have hf3 : files s' = l' := by have := unhide HF3; rw [hdn] at this; exact this
          have HNX := hide (show stepsL l (la.take (k + 1)) = some (files s') by rw [unhide HSN, hdn, hf3])
          clear hdn hf3
          go_wp2
          go_roundw
          case rel => exact ⟨k + 1, s', by omega, by go_num, unhide HNX, unhide HS3, unhide HB13⟩
          case measure => simp [intOf]; omega
      · obtain rfl : k = la.length := by omega
        rw [List.take_length] at hst
        have hre : res = (files s, la.length) := by rw [unhide HRUN]; exact runActs_all hst
        have HRE := hide hre
        clear hre hst hS hdk hbel HSTr
        go_wp2_with fail
        refine (sdisk_any s b _ wr (unhide HSr) (diskB_iff.1 (unhide HDK))).mono ?_
        rintro e w4 ⟨v4, rfl, hown4, hb4⟩
        have hR4 := row_on hb4 (unhide HRr) (by omega)
        have r0 := cell_of_row w4 (w.heap.size + 1) 0 _ _ (0, 0) hR4
        have z0 := frozen_of_row w4 (w.heap.size + 1) 0 _ _ hR4
        simp only [List.getElem?_toArray, List.getElem?_cons_zero] at r0
        obtain ⟨xa, xn, xc, hv'⟩ : ∃ a n c, v4 = .slice a n c := by unfold OwnF at hown4; rcases hown4.2 with ⟨h, _⟩ | ⟨_, _, _, h, _⟩ <;> exact ⟨_, _, _, h⟩
        subst hv'
        have HRR := hide (set1 (.slice xa xn xc) hR4)
        have HOE := hide (ownsRow_setCell_below hown4 (a := ⟨w.heap.size + 1, 0, none⟩) (by show w.heap.size + 1 < _; omega) (.slice xa xn xc))
        have HB4 := hide (((unhide HBr).trans (hb4.mono (by omega))).setCell (p := ⟨w.heap.size + 1, 0, none⟩) (by show w.heap.size ≤ w.heap.size + 1; omega) (.slice xa xn xc))
        clear hR4 hown4 hb4
        go_wp2
        refine bodyPost_ret (by rw [results_cell_tmp rfl]; simp [asAddr, run_loadVar_row _ _ _ _ _ _ _ (unhide HRR) Try.underlying26 rfl (by kernel_rfl)]; rfl) rfl ?_
        refine ⟨.slice xa xn xc, by rw [unhide HRE], ?_, unhide HB4⟩
        rw [unhide HRE]
        exact own_based (unhide HOE) (by omega)
end Go.Proofs.Ytnlcknklghalkaa
