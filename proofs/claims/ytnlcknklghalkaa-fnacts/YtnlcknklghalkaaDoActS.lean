/- One act on a disk: the specification's answer. -/
import Derived.Test.YtnlcknklghalkaaPut
import Derived.Test.YtnlcknklghalkaaWithout
import Derived.Test.YtnlcknklghalkaaDiskSB
import Derived.Test.YtnlcknklghalkaaShelfDo
namespace Go.Proofs.Ytnlcknklghalkaa
open Go.RowKit
open Plain
set_option linter.unusedVariables false
set_option linter.unusedSimpArgs false

theorem fileOf_pos {l : List Fl} {n : ByteArray} {k : Nat} (h : posL l n.toList = some k) : ∃ f, l[k]? = some f ∧ fileOf l n = some f := by
  unfold posL at h
  unfold fileOf
  induction l generalizing k with
  | nil => cases h
  | cons g r ih =>
    rw [List.findIdx?_cons] at h
    cases hg : (g.name.toList == n.toList)
    · rw [hg] at h
      simp at h
      obtain ⟨j, hj, rfl⟩ := h
      obtain ⟨f, h1, h2⟩ := ih hj
      exact ⟨f, by simpa using h1, by rw [List.find?_cons_of_neg (by rw [hg]; simp)]; exact h2⟩
    · rw [hg] at h
      simp at h
      subst h
      exact ⟨g, rfl, by rw [List.find?_cons_of_pos (by exact hg)]⟩
theorem fileOf_nopos {l : List Fl} {n : ByteArray} (h : posL l n.toList = none) : fileOf l n = none := by
  unfold posL at h
  unfold fileOf
  rw [List.findIdx?_eq_none_iff] at h
  rw [List.find?_eq_none]
  intro f hf e
  rw [h f hf] at e; cases e
theorem putL_small {m : Nat} {l : List Fl} {f : Fl} (h : SmallF m l) (hn : f.name.size ≤ m) (ht : f.text.size ≤ m) (hl : l.length + 1 ≤ m) : SmallF m (putL l f) :=
  ⟨Nat.le_trans (putL_len_le l f) hl, fun g hg => by
    rcases putL_mem hg with rfl | hg
    · exact ⟨hn, ht⟩
    · exact h.2 g hg⟩
theorem withoutL_small {m : Nat} {l : List Fl} (n : ByteArray) (h : SmallF m l) : SmallF m (withoutL l n) :=
  ⟨Nat.le_trans (List.length_filter_le _ _) h.1, fun g hg => h.2 g (withoutL_mem hg)⟩

/-- The words of an act, and its disk, let it by. -/
def LetBy (l : List Fl) (a : Ac) : Prop := ¬ (diskB l = false ∨ nameB a.name = false ∨ (a.kind ≠ 3 ∧ a.to ≠ ByteArray.empty) ∨ (a.kind ≠ 1 ∧ a.text ≠ ByteArray.empty))
theorem specL_add {l : List Fl} {a : Ac} (h : LetBy l a) (hk : a.kind = 1) {f : Fl} (hf : fileL l a.name = f) : specL l a = rightL (putL l ⟨f.name, f.text ++ a.text, f.kept⟩) := by
  unfold specL; rw [if_neg h, if_pos hk, hf]
theorem specL_none {l : List Fl} {a : Ac} (h : LetBy l a) (hk : a.kind ≠ 1) (hf : fileOf l a.name = none) : specL l a = none := by
  unfold specL; rw [if_neg h, if_neg hk, hf]
theorem specL_keep {l : List Fl} {a : Ac} {f : Fl} (h : LetBy l a) (hk : a.kind = 2) (hf : fileOf l a.name = some f) : specL l a = rightL (putL l ⟨f.name, f.text, (f.text.size : Int)⟩) := by
  unfold specL; rw [if_neg h, if_neg (by omega), hf]; simp only; rw [if_pos hk]
theorem specL_move {l : List Fl} {a : Ac} {f : Fl} (h : LetBy l a) (hk : a.kind = 3) (hf : fileOf l a.name = some f) (hm : ¬ (f.kept < (f.text.size : Int) ∨ a.to = a.name ∨ nameB a.to = false)) : specL l a = rightL (putL (withoutL l a.name) ⟨a.to, f.text, f.kept⟩) := by
  unfold specL; rw [if_neg h, if_neg (by omega), hf]; simp only; rw [if_neg (by omega), if_pos hk, if_neg hm]
theorem specL_move_no {l : List Fl} {a : Ac} {f : Fl} (h : LetBy l a) (hk : a.kind = 3) (hf : fileOf l a.name = some f) (hm : f.kept < (f.text.size : Int) ∨ a.to = a.name ∨ nameB a.to = false) : specL l a = none := by
  unfold specL; rw [if_neg h, if_neg (by omega), hf]; simp only; rw [if_neg (by omega), if_pos hk, if_pos hm]
theorem specL_drop {l : List Fl} {a : Ac} {f : Fl} (h : LetBy l a) (hk : a.kind = 4) (hf : fileOf l a.name = some f) : specL l a = rightL (withoutL l a.name) := by
  unfold specL; rw [if_neg h, if_neg (by omega), hf]; simp only; rw [if_neg (by omega), if_neg (by omega), if_pos hk]
theorem specL_odd {l : List Fl} {a : Ac} {f : Fl} (h : LetBy l a) (h1 : a.kind ≠ 1) (h2 : a.kind ≠ 2) (h3 : a.kind ≠ 3) (h4 : a.kind ≠ 4) (hf : fileOf l a.name = some f) : specL l a = none := by
  unfold specL; rw [if_neg h, if_neg h1, hf]; simp only; rw [if_neg h2, if_neg h3, if_neg h4]

set_option maxHeartbeats 4000000 in
set_option maxRecDepth 100000 in
theorem spec_DoAct_is (l : List Fl) (a : Ac) (v : Value) (B : Nat) (w : World) (hs : SmallF 1048576 l) (ha : SmallA 1048576 a) (h : OwnF B w v l) :
    Calls Try.prog 23 #[.agg #[v], .agg (ac a)] w fun e w' => ∃ v', e = .returned (.tuple #[.agg #[v'], .bool (specL l a).isSome]) ∧ OwnF w.heap.size w' v' ((specL l a).getD []) ∧ Below w.heap.size w w' := by
  obtain ⟨va, c, rfl, hcell⟩ := h.shape
  have HSP := hide (show specL l a = specL l a from rfl)
  generalize hres : specL l a = res at HSP ⊢
  replace HSP := hide hres.symm
  clear hres
  have HSL := hide (show SmallF 4194304 l from ⟨by have := hs.1; omega, fun f hf => ⟨by have := (hs.2 f hf).1; omega, by have := (hs.2 f hf).2; omega⟩⟩)
  have hl0 := hs.1
  have HOW := hide h
  obtain ⟨kind, nm, tx, to⟩ := a
  obtain ⟨h1, h2, h3⟩ := ha
  simp only at h1 h2 h3
  simp only [ac]
  clear h hs
  have HC := hide hcell
  clear hcell
  go_enter Try.func23, Try.ntmps23
  go_wp2_with fail
  obtain ⟨W, hW⟩ : ∃ W, W = ((w.alloc (.cells #[.slice va l.length c] 26)).alloc (.cells #[.int .i64 kind, .string nm, .string tx, .string to] 37)).alloc (.cells #[.slice none 0 0] 26) := ⟨_, rfl⟩
  have hb0 := (((Below.refl w.heap.size w).alloc (Nat.le_refl _) (.cells #[.slice va l.length c] 26)).alloc (by simp) (.cells #[.int .i64 kind, .string nm, .string tx, .string to] 37)).alloc (by simp; omega) (.cells #[.slice none 0 0] 26)
  rw [← hW] at hb0 ⊢
  have HDX := hide (show W.heap[w.heap.size]? = some (.cells #[.slice va l.length c] 26 (0, 0)) by rw [hW, Below.heap_alloc _ _ _ (by simp; omega), Below.heap_alloc _ _ _ (by simp)]; exact heap_alloc_new _ _)
  have HRA := hide (show W.heap[w.heap.size + 1]? = some (.cells #[.int .i64 kind, .string nm, .string tx, .string to] 37 (0, 0)) by rw [hW, Below.heap_alloc _ _ _ (by simp)]; exact heap_alloc2_new _ _ _)
  have HR := hide (show W.heap[w.heap.size + 2]? = some (.cells #[.slice none 0 0] 26 (0, 0)) by
    rw [hW]
    have := heap_alloc_new ((w.alloc (.cells #[.slice va l.length c] 26)).alloc (.cells #[.int .i64 kind, .string nm, .string tx, .string to] 37)) (.cells #[.slice none 0 0] 26)
    simpa using this)
  have hsz : W.heap.size = w.heap.size + 3 := by rw [hW]; simp
  clear hW
  have HO0 := hide (own_stays (unhide HOW) hb0)
  refine (spec_DiskOk_big l _ B W (unhide HSL) (unhide HO0)).mono ?_
  rintro e w1 ⟨rfl, hb1⟩
  have BB := hide hb0
  replace HOW := hide (own_stays (unhide HO0) hb1)
  have hsz1 : w.heap.size + 3 ≤ w1.heap.size := by have := hb1.size; omega
  replace HRA := hide (row_on hb1 (unhide HRA) (by omega))
  replace HR := hide (row_on hb1 (unhide HR) (by omega))
  replace HDX := hide (row_on hb1 (unhide HDX) (by omega))
  replace BB := hide ((unhide BB).trans (hb1.mono (by omega)))
  clear hb0 hb1 HO0
  cases hd : diskB l
  · obtain rfl : res = none := by rw [unhide HSP]; exact specL_no _ hd
    clear hd
    have r0 := cell_of_row w1 (w.heap.size + 2) 0 _ _ (0, 0) (unhide HR)
    have z0 := frozen_of_row w1 (w.heap.size + 2) 0 _ _ (unhide HR)
    simp only [List.getElem?_toArray, List.getElem?_cons_zero] at r0
    have HRR := hide (set1 (.slice none 0 0) (unhide HR))
    go_wp2
    refine bodyPost_ret (by rw [results_cell_tmp rfl]; simp [asAddr, run_loadVar_row _ _ _ _ _ _ _ (unhide HRR) Try.underlying26 rfl (by kernel_rfl)]; rfl) rfl ?_
    exact ⟨.slice none 0 0, rfl, World.ownsRow_nil _ _ _ _, (unhide BB).setCell (by simp; omega) _⟩
  have HDB := hide hd
  have HDR := hide (DiskR_iff.1 (diskB_iff.1 hd))
  clear hd
  have a0 := cell_of_row w1 (w.heap.size + 1) 0 _ _ (0, 0) (unhide HRA)
  have a1 := cell_of_row w1 (w.heap.size + 1) 1 _ _ (0, 0) (unhide HRA)
  have a2 := cell_of_row w1 (w.heap.size + 1) 2 _ _ (0, 0) (unhide HRA)
  have a3 := cell_of_row w1 (w.heap.size + 1) 3 _ _ (0, 0) (unhide HRA)
  have dx := cell_of_row w1 w.heap.size 0 _ _ (0, 0) (unhide HDX)
  simp only [List.getElem?_toArray, List.getElem?_cons_zero, List.getElem?_cons_succ] at a0 a1 a2 a3 dx
  have HNM := hide (fun wx => l03Name_big nm wx (by omega))
  go_wp2_with fail
  refine (unhide HNM _).mono ?_
  rintro e w1' ⟨rfl, hw1⟩
  subst w1'
  cases hnb : nameB nm
  · obtain rfl : res = none := by rw [unhide HSP]; unfold specL; rw [if_pos (.inr (.inl hnb))]
    clear HNM
    have r0 := cell_of_row w1 (w.heap.size + 2) 0 _ _ (0, 0) (unhide HR)
    have z0 := frozen_of_row w1 (w.heap.size + 2) 0 _ _ (unhide HR)
    simp only [List.getElem?_toArray, List.getElem?_cons_zero] at r0
    have HRR := hide (set1 (.slice none 0 0) (unhide HR))
    go_wp2
    refine bodyPost_ret (by rw [results_cell_tmp rfl]; simp [asAddr, run_loadVar_row _ _ _ _ _ _ _ (unhide HRR) Try.underlying26 rfl (by kernel_rfl)]; rfl) rfl ?_
    exact ⟨.slice none 0 0, rfl, World.ownsRow_nil _ _ _ _, (unhide BB).setCell (by simp; omega) _⟩
  clear HNM
  by_cases hbad : (kind ≠ 3 ∧ to ≠ ByteArray.empty) ∨ (kind ≠ 1 ∧ tx ≠ ByteArray.empty)
  · obtain rfl : res = none := by rw [unhide HSP]; unfold specL; rw [if_pos (.inr (.inr hbad))]
    have r0 := cell_of_row w1 (w.heap.size + 2) 0 _ _ (0, 0) (unhide HR)
    have z0 := frozen_of_row w1 (w.heap.size + 2) 0 _ _ (unhide HR)
    simp only [List.getElem?_toArray, List.getElem?_cons_zero] at r0
    have HRR := hide (set1 (.slice none 0 0) (unhide HR))
    by_cases hx : kind ≠ 3 ∧ to ≠ ByteArray.empty
    · have k3a : (kind == 3) = false := by simpa using hx.1
      have e2 := emp_no hx.2
      go_wp2
      refine bodyPost_ret (by rw [results_cell_tmp rfl]; simp [asAddr, run_loadVar_row _ _ _ _ _ _ _ (unhide HRR) Try.underlying26 rfl (by kernel_rfl)]; rfl) rfl ?_
      exact ⟨.slice none 0 0, rfl, World.ownsRow_nil _ _ _ _, (unhide BB).setCell (by simp; omega) _⟩
    · have hy := hbad.resolve_left hx
      have k1a : (kind == 1) = false := by simpa using hy.1
      have e1 := emp_no hy.2
      by_cases k3 : kind = 3
      · subst k3
        go_wp2
        refine bodyPost_ret (by rw [results_cell_tmp rfl]; simp [asAddr, run_loadVar_row _ _ _ _ _ _ _ (unhide HRR) Try.underlying26 rfl (by kernel_rfl)]; rfl) rfl ?_
        exact ⟨.slice none 0 0, rfl, World.ownsRow_nil _ _ _ _, (unhide BB).setCell (by simp; omega) _⟩
      · have k3a : (kind == 3) = false := by simpa using k3
        obtain rfl : to = ByteArray.empty := by by_cases h : to = ByteArray.empty; exact h; exact absurd ⟨k3, h⟩ hx
        go_wp2
        refine bodyPost_ret (by rw [results_cell_tmp rfl]; simp [asAddr, run_loadVar_row _ _ _ _ _ _ _ (unhide HRR) Try.underlying26 rfl (by kernel_rfl)]; rfl) rfl ?_
        exact ⟨.slice none 0 0, rfl, World.ownsRow_nil _ _ _ _, (unhide BB).setCell (by simp; omega) _⟩
  by_cases k1 : kind = 1
  · subst k1
    obtain rfl : to = ByteArray.empty := by by_cases h : to = ByteArray.empty; exact h; exact absurd (.inl ⟨by omega, h⟩) hbad
    go_wp2_with fail
    refine (l03At_any l nm _ B w1 (by omega) (unhide HOW)).mono ?_
    rintro e w2 ⟨rfl, hb2⟩
    have hsz2 : w1.heap.size ≤ w2.heap.size := hb2.size
    replace HOW := hide (own_stays (unhide HOW) hb2)
    replace HRA := hide (row_on hb2 (unhide HRA) (by omega))
    replace HR := hide (row_on hb2 (unhide HR) (by omega))
    replace HDX := hide (row_on hb2 (unhide HDX) (by omega))
    replace BB := hide ((unhide BB).trans (hb2.mono (by omega)))
    have hc2 : ∀ p : Addr, p.block < w.heap.size → w2.cell? p = w.cell? p := fun p hp => (unhide BB).cell hp
    have HC2 := hide hc2
    clear hb2 a0 a1 a2 a3 dx hc2
    have a0 := cell_of_row w2 (w.heap.size + 1) 0 _ _ (0, 0) (unhide HRA)
    have a1 := cell_of_row w2 (w.heap.size + 1) 1 _ _ (0, 0) (unhide HRA)
    have a2 := cell_of_row w2 (w.heap.size + 1) 2 _ _ (0, 0) (unhide HRA)
    have a3 := cell_of_row w2 (w.heap.size + 1) 3 _ _ (0, 0) (unhide HRA)
    have dx := cell_of_row w2 w.heap.size 0 _ _ (0, 0) (unhide HDX)
    simp only [List.getElem?_toArray, List.getElem?_cons_zero, List.getElem?_cons_succ] at a0 a1 a2 a3 dx
    have a0b := fun o => cell_on ((Below.refl w2.heap.size w2).alloc (Nat.le_refl _) o) a0
    have a0c := fun o o' => cell_on (((Below.refl w2.heap.size w2).alloc (Nat.le_refl _) o).alloc (by simp) o') a0
    have a1b := fun o => cell_on ((Below.refl w2.heap.size w2).alloc (Nat.le_refl _) o) a1
    have a1c := fun o o' => cell_on (((Below.refl w2.heap.size w2).alloc (Nat.le_refl _) o).alloc (by simp) o') a1
    have a2b := fun o => cell_on ((Below.refl w2.heap.size w2).alloc (Nat.le_refl _) o) a2
    have a2c := fun o o' => cell_on (((Below.refl w2.heap.size w2).alloc (Nat.le_refl _) o).alloc (by simp) o') a2
    have a3b := fun o => cell_on ((Below.refl w2.heap.size w2).alloc (Nat.le_refl _) o) a3
    have a3c := fun o o' => cell_on (((Below.refl w2.heap.size w2).alloc (Nat.le_refl _) o).alloc (by simp) o') a3
    have dxb := fun o => cell_on ((Below.refl w2.heap.size w2).alloc (Nat.le_refl _) o) dx
    have dxc := fun o o' => cell_on (((Below.refl w2.heap.size w2).alloc (Nat.le_refl _) o).alloc (by simp) o') dx
    have hif : LetBy l ⟨1, nm, tx, ByteArray.empty⟩ := by
      rintro (h | h | h)
      · rw [unhide HDB] at h; cases h
      · rw [show nameB (⟨1, nm, tx, ByteArray.empty⟩ : Ac).name = true from hnb] at h; cases h
      · exact hbad h
    have HIF := hide hif
    clear hif
    cases hp : posL l nm.toList with
    | none =>
      have hpi : posI l nm.toList = -1 := by unfold posI; rw [hp]
      have hf := fileOf_nopos hp
      rw [hpi]
      clear hp hpi
      have hsx : (⟨#[]⟩ : ByteArray).size = 0 := rfl
      have hap : (⟨#[]⟩ : ByteArray) ++ tx = tx := by show ByteArray.empty ++ tx = tx; simp
      have hbW := ((Below.refl w2.heap.size w2).alloc (Nat.le_refl _) (.cells #[.string nm, .string tx, .int .i64 0] 55)).alloc (by simp) (.cells #[.slice none 0 0] 26)
      have hzW : ((w2.alloc (.cells #[.string nm, .string tx, .int .i64 0] 55)).alloc (.cells #[.slice none 0 0] 26)).heap.size = w2.heap.size + 2 := by simp
      have HX := hide (show ((w2.alloc (.cells #[.string nm, .string tx, .int .i64 0] 55)).alloc (.cells #[.slice none 0 0] 26)).heap[w2.heap.size + 1]? = some (.cells #[.slice none 0 0] 26 (0, 0)) from heap_alloc2_new _ _ _)
      have HCALL := hide (l03Put_any l ⟨nm, tx, 0⟩ _ B ((w2.alloc (.cells #[.string nm, .string tx, .int .i64 0] 55)).alloc (.cells #[.slice none 0 0] 26)) (by omega) (own_stays (unhide HOW) hbW))
      have HSM := hide (show SmallF 4194304 (putL l ⟨nm, tx, 0⟩) from putL_small (unhide HSL) (by show nm.size ≤ _; omega) (by show tx.size ≤ _; omega) (by omega))
      have HRL := hide (show res = rightL (putL l ⟨nm, tx, 0⟩) from by rw [unhide HSP, specL_add (unhide HIF) rfl (f := ⟨nm, ByteArray.empty, 0⟩) (by unfold fileL; rw [hf]; rfl)]; show rightL (putL l ⟨nm, ByteArray.empty ++ tx, 0⟩) = _; rw [show ByteArray.empty ++ tx = tx from hap])
      clear HSP HSL HOW
      go_wp2_with fail
      generalize putL l ⟨nm, tx, 0⟩ = lo at *
      generalize (w2.alloc (.cells #[.string nm, .string tx, .int .i64 0] 55)).alloc (.cells #[.slice none 0 0] 26) = wz at *
      refine (unhide HCALL).mono ?_
      rintro e w4 ⟨v4, rfl, hown4, hb4⟩
      replace HX := hide (row_on hb4 (unhide HX) (by omega))
      replace HRA := hide (row_on hb4 (row_on hbW (unhide HRA) (by omega)) (by omega))
      replace HR := hide (row_on hb4 (row_on hbW (unhide HR) (by omega)) (by omega))
      replace HDX := hide (row_on hb4 (row_on hbW (unhide HDX) (by omega)) (by omega))
      replace BB := hide ((unhide BB).trans ((hbW.mono (by omega)).trans (hb4.mono (by omega))))
      have hz4 : wz.heap.size ≤ w4.heap.size := hb4.size
      clear hb4 hbW HCALL HC2 a0 a1 a2 a3 dx hap hsx hf HIF a0b a1b a2b a3b dxb a0c a1c a2c a3c dxc
      obtain ⟨xa, xn, xc, hv'⟩ : ∃ a n c, v4 = .slice a n c := by unfold OwnF at hown4; rcases hown4.2 with ⟨h, _⟩ | ⟨_, _, _, h, _⟩ <;> exact ⟨_, _, _, h⟩
      subst hv'
      have x0 := cell_of_row w4 (w2.heap.size + 1) 0 _ _ (0, 0) (unhide HX)
      have xz := frozen_of_row w4 (w2.heap.size + 1) 0 _ _ (unhide HX)
      simp only [List.getElem?_toArray, List.getElem?_cons_zero] at x0
      have HX5 := hide (set1 (.slice xa xn xc) (unhide HX))
      have hown5 := ownsRow_setCell_below hown4 (a := ⟨w2.heap.size + 1, 0, none⟩) (by show w2.heap.size + 1 < _; omega) (.slice xa xn xc)
      have kk := cell_of_row _ (w2.heap.size + 1) 0 _ _ (0, 0) (unhide HX5)
      simp only [List.getElem?_toArray, List.getElem?_cons_zero] at kk
      have HB5 := hide ((unhide BB).setCell (p := ⟨w2.heap.size + 1, 0, none⟩) (by show w.heap.size ≤ w2.heap.size + 1; omega) (.slice xa xn xc))
      have HR5 := hide ((Below.heap_setCell w4 ⟨w2.heap.size + 1, 0, none⟩ (.slice xa xn xc) (w.heap.size + 2) (by show w.heap.size + 2 ≠ w2.heap.size + 1; omega)).trans (unhide HR))
      have hz5 : (w4.setCell ⟨w2.heap.size + 1, 0, none⟩ (.slice xa xn xc)).heap.size = w4.heap.size := by simp
      have HO5 := hide hown5
      clear hown4 hown5 HX BB HR HRA HDX
      go_wp2_with fail
      have HCK := hide (spec_DiskOk_big lo (.slice xa xn xc) _ (w4.setCell ⟨w2.heap.size + 1, 0, none⟩ (.slice xa xn xc)) (unhide HSM) (unhide HO5))
      generalize w4.setCell ⟨w2.heap.size + 1, 0, none⟩ (.slice xa xn xc) = w5 at *
      refine (unhide HCK).mono ?_
      rintro e w6 ⟨rfl, hb6⟩
      have HR6 := hide (row_on hb6 (unhide HR5) (by omega))
      have hx6 := row_on hb6 (unhide HX5) (by omega)
      have x6 := cell_of_row w6 (w2.heap.size + 1) 0 _ _ (0, 0) hx6
      simp only [List.getElem?_toArray, List.getElem?_cons_zero] at x6
      have HO6 := hide (own_stays (unhide HO5) hb6)
      have HB6 := hide ((unhide HB5).trans (hb6.mono (by omega)))
      have hz6 : w5.heap.size ≤ w6.heap.size := hb6.size
      clear HR5 hx6 HO5 HB5 hb6 HX5 kk HCK x0 xz
      cases hdo : diskB lo
      · obtain rfl : res = none := by rw [unhide HRL]; unfold rightL; rw [hdo]; rfl
        clear hdo
        have r0 := cell_of_row w6 (w.heap.size + 2) 0 _ _ (0, 0) (unhide HR6)
        have z0 := frozen_of_row w6 (w.heap.size + 2) 0 _ _ (unhide HR6)
        simp only [List.getElem?_toArray, List.getElem?_cons_zero] at r0
        have HRR := hide (set1 (.slice none 0 0) (unhide HR6))
        go_wp2
        refine bodyPost_ret (by rw [results_cell_tmp rfl]; simp [asAddr, run_loadVar_row _ _ _ _ _ _ _ (unhide HRR) Try.underlying26 rfl (by kernel_rfl)]; rfl) rfl ?_
        exact ⟨.slice none 0 0, rfl, World.ownsRow_nil _ _ _ _, (unhide HB6).setCell (by simp; omega) _⟩
      · obtain rfl : res = some lo := by rw [unhide HRL]; unfold rightL; rw [hdo]; rfl
        clear hdo
        have r0 := cell_of_row w6 (w.heap.size + 2) 0 _ _ (0, 0) (unhide HR6)
        have z0 := frozen_of_row w6 (w.heap.size + 2) 0 _ _ (unhide HR6)
        simp only [List.getElem?_toArray, List.getElem?_cons_zero] at r0
        have HRR := hide (set1 (.slice xa xn xc) (unhide HR6))
        have HOE := hide (ownsRow_setCell_below (unhide HO6) (a := ⟨w.heap.size + 2, 0, none⟩) (by show w.heap.size + 2 < _; omega) (.slice xa xn xc))
        have HBE := hide ((unhide HB6).setCell (p := ⟨w.heap.size + 2, 0, none⟩) (by show w.heap.size ≤ w.heap.size + 2; omega) (.slice xa xn xc))
        go_wp2
        refine bodyPost_ret (by rw [results_cell_tmp rfl]; simp [asAddr, run_loadVar_row _ _ _ _ _ _ _ (unhide HRR) Try.underlying26 rfl (by kernel_rfl)]; rfl) rfl ?_
        exact ⟨.slice xa xn xc, rfl, own_based (unhide HOE) (by omega), unhide HBE⟩
    | some k =>
      have hpi : posI l nm.toList = (k : Int) := by unfold posI; rw [hp]
      obtain ⟨f, hlk, hf⟩ := fileOf_pos hp
      obtain ⟨g, hga, hgl, c0, c1, c2⟩ := unhide HC k f hlk
      obtain ⟨hfm, hfn⟩ := fileOf_mem hf
      obtain ⟨p1, p2, p3, p4⟩ := fileB_parts ((unhide HDR).2.1 f hfm)
      have hkl : k < l.length := (List.getElem?_eq_some_iff.1 hlk).1
      rw [← unhide HC2 ⟨g, _, none⟩ hgl] at c0 c1 c2
      subst hga
      rw [hpi]
      have hik : (0 : Int) ≤ (k : Int) := by omega
      have hil : (k : Int) < (l.length : Int) := by omega
      have HF := hide hf
      have HFN := hide hfn
      have hns : f.name.size ≤ 1048576 := by rw [hfn]; exact h1
      clear hp hpi hlk hfm hf hfn
      obtain ⟨fn, ft, fk⟩ := f
      simp only at c0 c1 c2 p1 p2 p3 p4 hns
      have c0b := fun o => cell_on ((Below.refl w2.heap.size w2).alloc (Nat.le_refl _) o) c0
      have c0c := fun o o' => cell_on (((Below.refl w2.heap.size w2).alloc (Nat.le_refl _) o).alloc (by simp) o') c0
      have c1b := fun o => cell_on ((Below.refl w2.heap.size w2).alloc (Nat.le_refl _) o) c1
      have c1c := fun o o' => cell_on (((Below.refl w2.heap.size w2).alloc (Nat.le_refl _) o).alloc (by simp) o') c1
      have c2b := fun o => cell_on ((Below.refl w2.heap.size w2).alloc (Nat.le_refl _) o) c2
      have c2c := fun o o' => cell_on (((Below.refl w2.heap.size w2).alloc (Nat.le_refl _) o).alloc (by simp) o') c2
      have hap : (ft ++ tx).size = ft.size + tx.size := ByteArray.size_append
      have hbW := ((Below.refl w2.heap.size w2).alloc (Nat.le_refl _) (.cells #[.string fn, .string (ft ++ tx), .int .i64 fk] 55)).alloc (by simp) (.cells #[.slice none 0 0] 26)
      have hzW : ((w2.alloc (.cells #[.string fn, .string (ft ++ tx), .int .i64 fk] 55)).alloc (.cells #[.slice none 0 0] 26)).heap.size = w2.heap.size + 2 := by simp
      have HX := hide (show ((w2.alloc (.cells #[.string fn, .string (ft ++ tx), .int .i64 fk] 55)).alloc (.cells #[.slice none 0 0] 26)).heap[w2.heap.size + 1]? = some (.cells #[.slice none 0 0] 26 (0, 0)) from heap_alloc2_new _ _ _)
      have HCALL := hide (l03Put_any l ⟨fn, ft ++ tx, fk⟩ _ B ((w2.alloc (.cells #[.string fn, .string (ft ++ tx), .int .i64 fk] 55)).alloc (.cells #[.slice none 0 0] 26)) (by omega) (own_stays (unhide HOW) hbW))
      have HSM := hide (show SmallF 4194304 (putL l ⟨fn, ft ++ tx, fk⟩) from putL_small (unhide HSL) (by show fn.size ≤ _; omega) (by show (ft ++ tx).size ≤ _; omega) (by omega))
      have HRL := hide (show res = rightL (putL l ⟨fn, ft ++ tx, fk⟩) from by rw [unhide HSP]; exact specL_add (unhide HIF) rfl (f := ⟨fn, ft, fk⟩) (by unfold fileL; rw [unhide HF]; rfl))
      clear HSP HSL HOW
      go_wp2_with fail
      generalize putL l ⟨fn, ft ++ tx, fk⟩ = lo at *
      generalize (w2.alloc (.cells #[.string fn, .string (ft ++ tx), .int .i64 fk] 55)).alloc (.cells #[.slice none 0 0] 26) = wz at *
      refine (unhide HCALL).mono ?_
      rintro e w4 ⟨v4, rfl, hown4, hb4⟩
      replace HX := hide (row_on hb4 (unhide HX) (by omega))
      replace HRA := hide (row_on hb4 (row_on hbW (unhide HRA) (by omega)) (by omega))
      replace HR := hide (row_on hb4 (row_on hbW (unhide HR) (by omega)) (by omega))
      replace HDX := hide (row_on hb4 (row_on hbW (unhide HDX) (by omega)) (by omega))
      replace BB := hide ((unhide BB).trans ((hbW.mono (by omega)).trans (hb4.mono (by omega))))
      have hz4 : wz.heap.size ≤ w4.heap.size := hb4.size
      clear hb4 hbW HCALL HC2 a0 a1 a2 a3 dx hap HF HIF HFN c0 c1 c2 c0b c1b c2b c0c c1c c2c a0b a1b a2b a3b dxb a0c a1c a2c a3c dxc
      obtain ⟨xa, xn, xc, hv'⟩ : ∃ a n c, v4 = .slice a n c := by unfold OwnF at hown4; rcases hown4.2 with ⟨h, _⟩ | ⟨_, _, _, h, _⟩ <;> exact ⟨_, _, _, h⟩
      subst hv'
      have x0 := cell_of_row w4 (w2.heap.size + 1) 0 _ _ (0, 0) (unhide HX)
      have xz := frozen_of_row w4 (w2.heap.size + 1) 0 _ _ (unhide HX)
      simp only [List.getElem?_toArray, List.getElem?_cons_zero] at x0
      have HX5 := hide (set1 (.slice xa xn xc) (unhide HX))
      have hown5 := ownsRow_setCell_below hown4 (a := ⟨w2.heap.size + 1, 0, none⟩) (by show w2.heap.size + 1 < _; omega) (.slice xa xn xc)
      have kk := cell_of_row _ (w2.heap.size + 1) 0 _ _ (0, 0) (unhide HX5)
      simp only [List.getElem?_toArray, List.getElem?_cons_zero] at kk
      have HB5 := hide ((unhide BB).setCell (p := ⟨w2.heap.size + 1, 0, none⟩) (by show w.heap.size ≤ w2.heap.size + 1; omega) (.slice xa xn xc))
      have HR5 := hide ((Below.heap_setCell w4 ⟨w2.heap.size + 1, 0, none⟩ (.slice xa xn xc) (w.heap.size + 2) (by show w.heap.size + 2 ≠ w2.heap.size + 1; omega)).trans (unhide HR))
      have hz5 : (w4.setCell ⟨w2.heap.size + 1, 0, none⟩ (.slice xa xn xc)).heap.size = w4.heap.size := by simp
      have HO5 := hide hown5
      clear hown4 hown5 HX BB HR HRA HDX
      go_wp2_with fail
      have HCK := hide (spec_DiskOk_big lo (.slice xa xn xc) _ (w4.setCell ⟨w2.heap.size + 1, 0, none⟩ (.slice xa xn xc)) (unhide HSM) (unhide HO5))
      generalize w4.setCell ⟨w2.heap.size + 1, 0, none⟩ (.slice xa xn xc) = w5 at *
      refine (unhide HCK).mono ?_
      rintro e w6 ⟨rfl, hb6⟩
      have HR6 := hide (row_on hb6 (unhide HR5) (by omega))
      have hx6 := row_on hb6 (unhide HX5) (by omega)
      have x6 := cell_of_row w6 (w2.heap.size + 1) 0 _ _ (0, 0) hx6
      simp only [List.getElem?_toArray, List.getElem?_cons_zero] at x6
      have HO6 := hide (own_stays (unhide HO5) hb6)
      have HB6 := hide ((unhide HB5).trans (hb6.mono (by omega)))
      have hz6 : w5.heap.size ≤ w6.heap.size := hb6.size
      clear HR5 hx6 HO5 HB5 hb6 HX5 kk HCK x0 xz
      cases hdo : diskB lo
      · obtain rfl : res = none := by rw [unhide HRL]; unfold rightL; rw [hdo]; rfl
        clear hdo
        have r0 := cell_of_row w6 (w.heap.size + 2) 0 _ _ (0, 0) (unhide HR6)
        have z0 := frozen_of_row w6 (w.heap.size + 2) 0 _ _ (unhide HR6)
        simp only [List.getElem?_toArray, List.getElem?_cons_zero] at r0
        have HRR := hide (set1 (.slice none 0 0) (unhide HR6))
        go_wp2
        refine bodyPost_ret (by rw [results_cell_tmp rfl]; simp [asAddr, run_loadVar_row _ _ _ _ _ _ _ (unhide HRR) Try.underlying26 rfl (by kernel_rfl)]; rfl) rfl ?_
        exact ⟨.slice none 0 0, rfl, World.ownsRow_nil _ _ _ _, (unhide HB6).setCell (by simp; omega) _⟩
      · obtain rfl : res = some lo := by rw [unhide HRL]; unfold rightL; rw [hdo]; rfl
        clear hdo
        have r0 := cell_of_row w6 (w.heap.size + 2) 0 _ _ (0, 0) (unhide HR6)
        have z0 := frozen_of_row w6 (w.heap.size + 2) 0 _ _ (unhide HR6)
        simp only [List.getElem?_toArray, List.getElem?_cons_zero] at r0
        have HRR := hide (set1 (.slice xa xn xc) (unhide HR6))
        have HOE := hide (ownsRow_setCell_below (unhide HO6) (a := ⟨w.heap.size + 2, 0, none⟩) (by show w.heap.size + 2 < _; omega) (.slice xa xn xc))
        have HBE := hide ((unhide HB6).setCell (p := ⟨w.heap.size + 2, 0, none⟩) (by show w.heap.size ≤ w.heap.size + 2; omega) (.slice xa xn xc))
        go_wp2
        refine bodyPost_ret (by rw [results_cell_tmp rfl]; simp [asAddr, run_loadVar_row _ _ _ _ _ _ _ (unhide HRR) Try.underlying26 rfl (by kernel_rfl)]; rfl) rfl ?_
        exact ⟨.slice xa xn xc, rfl, own_based (unhide HOE) (by omega), unhide HBE⟩
  have k1a : (kind == 1) = false := by simpa using k1
  obtain rfl : tx = ByteArray.empty := by by_cases h : tx = ByteArray.empty; exact h; exact absurd (.inr ⟨k1, h⟩) hbad
  by_cases k3 : kind = 3
  · subst k3
    go_wp2_with fail
    refine (l03At_any l nm _ B w1 (by omega) (unhide HOW)).mono ?_
    rintro e w2 ⟨rfl, hb2⟩
    have hsz2 : w1.heap.size ≤ w2.heap.size := hb2.size
    replace HOW := hide (own_stays (unhide HOW) hb2)
    replace HRA := hide (row_on hb2 (unhide HRA) (by omega))
    replace HR := hide (row_on hb2 (unhide HR) (by omega))
    replace HDX := hide (row_on hb2 (unhide HDX) (by omega))
    replace BB := hide ((unhide BB).trans (hb2.mono (by omega)))
    have hc2 : ∀ p : Addr, p.block < w.heap.size → w2.cell? p = w.cell? p := fun p hp => (unhide BB).cell hp
    have HC2 := hide hc2
    clear hb2 a0 a1 a2 a3 dx hc2
    have a0 := cell_of_row w2 (w.heap.size + 1) 0 _ _ (0, 0) (unhide HRA)
    have a1 := cell_of_row w2 (w.heap.size + 1) 1 _ _ (0, 0) (unhide HRA)
    have a2 := cell_of_row w2 (w.heap.size + 1) 2 _ _ (0, 0) (unhide HRA)
    have a3 := cell_of_row w2 (w.heap.size + 1) 3 _ _ (0, 0) (unhide HRA)
    have dx := cell_of_row w2 w.heap.size 0 _ _ (0, 0) (unhide HDX)
    simp only [List.getElem?_toArray, List.getElem?_cons_zero, List.getElem?_cons_succ] at a0 a1 a2 a3 dx
    have a0b := fun o => cell_on ((Below.refl w2.heap.size w2).alloc (Nat.le_refl _) o) a0
    have a0c := fun o o' => cell_on (((Below.refl w2.heap.size w2).alloc (Nat.le_refl _) o).alloc (by simp) o') a0
    have a1b := fun o => cell_on ((Below.refl w2.heap.size w2).alloc (Nat.le_refl _) o) a1
    have a1c := fun o o' => cell_on (((Below.refl w2.heap.size w2).alloc (Nat.le_refl _) o).alloc (by simp) o') a1
    have a2b := fun o => cell_on ((Below.refl w2.heap.size w2).alloc (Nat.le_refl _) o) a2
    have a2c := fun o o' => cell_on (((Below.refl w2.heap.size w2).alloc (Nat.le_refl _) o).alloc (by simp) o') a2
    have a3b := fun o => cell_on ((Below.refl w2.heap.size w2).alloc (Nat.le_refl _) o) a3
    have a3c := fun o o' => cell_on (((Below.refl w2.heap.size w2).alloc (Nat.le_refl _) o).alloc (by simp) o') a3
    have dxb := fun o => cell_on ((Below.refl w2.heap.size w2).alloc (Nat.le_refl _) o) dx
    have dxc := fun o o' => cell_on (((Below.refl w2.heap.size w2).alloc (Nat.le_refl _) o).alloc (by simp) o') dx
    have hif : LetBy l ⟨3, nm, ByteArray.empty, to⟩ := by
      rintro (h | h | h)
      · rw [unhide HDB] at h; cases h
      · rw [show nameB (⟨3, nm, ByteArray.empty, to⟩ : Ac).name = true from hnb] at h; cases h
      · exact hbad h
    have HIF := hide hif
    clear hif
    cases hp : posL l nm.toList with
    | none =>
      have hpi : posI l nm.toList = -1 := by unfold posI; rw [hp]
      have hf := fileOf_nopos hp
      rw [hpi]
      clear hp hpi
      obtain rfl : res = none := by rw [unhide HSP]; exact specL_none (unhide HIF) (by show ¬ (3 : Int) = 1; omega) hf
      have HRW := hide (row_on (((Below.refl w2.heap.size w2).alloc (Nat.le_refl _) (.cells #[.string nm, .string ⟨#[]⟩, .int .i64 0] 55)).alloc (by simp) (.cells #[.slice none 0 0] 26)) (unhide HR) (by omega))
      have HBW := hide (((unhide BB).alloc (by omega) (.cells #[.string nm, .string ⟨#[]⟩, .int .i64 0] 55)).alloc (by simp; omega) (.cells #[.slice none 0 0] 26))
      clear hf
      have r0 := cell_of_row ((w2.alloc (.cells #[.string nm, .string ⟨#[]⟩, .int .i64 0] 55)).alloc (.cells #[.slice none 0 0] 26)) (w.heap.size + 2) 0 _ _ (0, 0) (unhide HRW)
      have z0 := frozen_of_row ((w2.alloc (.cells #[.string nm, .string ⟨#[]⟩, .int .i64 0] 55)).alloc (.cells #[.slice none 0 0] 26)) (w.heap.size + 2) 0 _ _ (unhide HRW)
      simp only [List.getElem?_toArray, List.getElem?_cons_zero] at r0
      have HRR := hide (set1 (.slice none 0 0) (unhide HRW))
      go_wp2
      refine bodyPost_ret (by rw [results_cell_tmp rfl]; simp [asAddr, run_loadVar_row _ _ _ _ _ _ _ (unhide HRR) Try.underlying26 rfl (by kernel_rfl)]; rfl) rfl ?_
      exact ⟨.slice none 0 0, rfl, World.ownsRow_nil _ _ _ _, (unhide HBW).setCell (by simp; omega) _⟩
    | some k =>
      have hpi : posI l nm.toList = (k : Int) := by unfold posI; rw [hp]
      obtain ⟨f, hlk, hf⟩ := fileOf_pos hp
      obtain ⟨g, hga, hgl, c0, c1, c2⟩ := unhide HC k f hlk
      obtain ⟨hfm, hfn⟩ := fileOf_mem hf
      obtain ⟨p1, p2, p3, p4⟩ := fileB_parts ((unhide HDR).2.1 f hfm)
      have hkl : k < l.length := (List.getElem?_eq_some_iff.1 hlk).1
      rw [← unhide HC2 ⟨g, _, none⟩ hgl] at c0 c1 c2
      subst hga
      rw [hpi]
      have hik : (0 : Int) ≤ (k : Int) := by omega
      have hil : (k : Int) < (l.length : Int) := by omega
      have HF := hide hf
      have HFN := hide hfn
      have hns : f.name.size ≤ 1048576 := by rw [hfn]; exact h1
      clear hp hpi hlk hfm hf hfn
      obtain ⟨fn, ft, fk⟩ := f
      simp only at c0 c1 c2 p1 p2 p3 p4 hns
      have c0b := fun o => cell_on ((Below.refl w2.heap.size w2).alloc (Nat.le_refl _) o) c0
      have c0c := fun o o' => cell_on (((Below.refl w2.heap.size w2).alloc (Nat.le_refl _) o).alloc (by simp) o') c0
      have c1b := fun o => cell_on ((Below.refl w2.heap.size w2).alloc (Nat.le_refl _) o) c1
      have c1c := fun o o' => cell_on (((Below.refl w2.heap.size w2).alloc (Nat.le_refl _) o).alloc (by simp) o') c1
      have c2b := fun o => cell_on ((Below.refl w2.heap.size w2).alloc (Nat.le_refl _) o) c2
      have c2c := fun o o' => cell_on (((Below.refl w2.heap.size w2).alloc (Nat.le_refl _) o).alloc (by simp) o') c2
      by_cases hm : fk < (ft.size : Int) ∨ to = nm ∨ nameB to = false
      · obtain rfl : res = none := by rw [unhide HSP]; exact specL_move_no (unhide HIF) rfl (unhide HF) hm
        have HNT := hide (fun wx => l03Name_big to wx (by omega))
        have HRW := hide (row_on (((Below.refl w2.heap.size w2).alloc (Nat.le_refl _) (.cells #[.string fn, .string ft, .int .i64 fk] 55)).alloc (by simp) (.cells #[.slice none 0 0] 26)) (unhide HR) (by omega))
        have HBW := hide (((unhide BB).alloc (by omega) (.cells #[.string fn, .string ft, .int .i64 fk] 55)).alloc (by simp; omega) (.cells #[.slice none 0 0] 26))
        have r0 := cell_of_row ((w2.alloc (.cells #[.string fn, .string ft, .int .i64 fk] 55)).alloc (.cells #[.slice none 0 0] 26)) (w.heap.size + 2) 0 _ _ (0, 0) (unhide HRW)
        have z0 := frozen_of_row ((w2.alloc (.cells #[.string fn, .string ft, .int .i64 fk] 55)).alloc (.cells #[.slice none 0 0] 26)) (w.heap.size + 2) 0 _ _ (unhide HRW)
        simp only [List.getElem?_toArray, List.getElem?_cons_zero] at r0
        have HRR := hide (set1 (.slice none 0 0) (unhide HRW))
        by_cases m1 : fk < (ft.size : Int)
        · clear hm
          go_wp2
          refine bodyPost_ret (by rw [results_cell_tmp rfl]; simp [asAddr, run_loadVar_row _ _ _ _ _ _ _ (unhide HRR) Try.underlying26 rfl (by kernel_rfl)]; rfl) rfl ?_
          exact ⟨.slice none 0 0, rfl, World.ownsRow_nil _ _ _ _, (unhide HBW).setCell (by simp; omega) _⟩
        have m1a : decide (fk < (ft.size : Int)) = false := by simp; omega
        by_cases m2 : to = nm
        · subst m2
          clear hm
          go_wp2
          refine bodyPost_ret (by rw [results_cell_tmp rfl]; simp [asAddr, run_loadVar_row _ _ _ _ _ _ _ (unhide HRR) Try.underlying26 rfl (by kernel_rfl)]; rfl) rfl ?_
          exact ⟨.slice none 0 0, rfl, World.ownsRow_nil _ _ _ _, (unhide HBW).setCell (by simp; omega) _⟩
        have m2a : (to.toList == nm.toList) = false := by rw [same_dec]; simpa using m2
        have m3 : nameB to = false := (hm.resolve_left m1).resolve_left m2
        clear hm
        go_wp2_with (go_at_call 45; refine (unhide HNT _).mono ?_; rintro e wn ⟨rfl, hwn⟩; subst wn)
        refine bodyPost_ret (by rw [results_cell_tmp rfl]; simp [asAddr, run_loadVar_row _ _ _ _ _ _ _ (unhide HRR) Try.underlying26 rfl (by kernel_rfl)]; rfl) rfl ?_
        exact ⟨.slice none 0 0, rfl, World.ownsRow_nil _ _ _ _, (unhide HBW).setCell (by simp; omega) _⟩
      have m1a : decide (fk < (ft.size : Int)) = false := by simp; omega
      have m2a : (to.toList == nm.toList) = false := by rw [same_dec]; simp; intro h; exact hm (.inr (.inl h))
      have m3 : nameB to = true := by cases h : nameB to; exact absurd (.inr (.inr h)) hm; rfl
      have HNT := hide (fun wx => l03Name_big to wx (by omega))
      have HRL := hide (show res = rightL (putL (withoutL l nm) ⟨to, ft, fk⟩) by rw [unhide HSP]; exact specL_move (unhide HIF) rfl (unhide HF) hm)
      have HSM := hide (show SmallF 4194304 (putL (withoutL l nm) ⟨to, ft, fk⟩) from putL_small (withoutL_small nm (unhide HSL)) (by show to.size ≤ _; omega) (by show ft.size ≤ _; omega) (by have : (withoutL l nm).length ≤ l.length := List.length_filter_le _ _; omega))
      have hwl : (withoutL l nm).length ≤ l.length := List.length_filter_le _ _
      clear HSP hm
      have hbW := ((Below.refl w2.heap.size w2).alloc (Nat.le_refl _) (.cells #[.string to, .string ft, .int .i64 fk] 55)).alloc (by simp) (.cells #[.slice none 0 0] 26)
      have hzW : ((w2.alloc (.cells #[.string to, .string ft, .int .i64 fk] 55)).alloc (.cells #[.slice none 0 0] 26)).heap.size = w2.heap.size + 2 := by simp
      have HX := hide (show ((w2.alloc (.cells #[.string to, .string ft, .int .i64 fk] 55)).alloc (.cells #[.slice none 0 0] 26)).heap[w2.heap.size + 1]? = some (.cells #[.slice none 0 0] 26 (0, 0)) from heap_alloc2_new _ _ _)
      have HFX := hide (show ((w2.alloc (.cells #[.string to, .string ft, .int .i64 fk] 55)).alloc (.cells #[.slice none 0 0] 26)).heap[w2.heap.size]? = some (.cells #[.string to, .string ft, .int .i64 fk] 55 (0, 0)) by rw [Below.heap_alloc _ _ _ (by simp)]; exact heap_alloc_new _ _)
      go_wp2_with (go_at_call 45; refine (unhide HNT _).mono ?_; rintro e wn ⟨rfl, hwn⟩; subst wn)
      generalize (w2.alloc (.cells #[.string to, .string ft, .int .i64 fk] 55)).alloc (.cells #[.slice none 0 0] 26) = wz at *
      replace HRA := hide (row_on hbW (unhide HRA) (by omega))
      replace HR := hide (row_on hbW (unhide HR) (by omega))
      replace HDX := hide (row_on hbW (unhide HDX) (by omega))
      replace BB := hide ((unhide BB).trans (hbW.mono (by omega)))
      replace HOW := hide (own_stays (unhide HOW) hbW)
      clear a0 a1 a2 a3 dx c0 c1 c2 c0b c1b c2b c0c c1c c2c a0b a1b a2b a3b dxb a0c a1c a2c a3c dxc
      have a0 := cell_of_row wz (w.heap.size + 1) 0 _ _ (0, 0) (unhide HRA)
      have a1 := cell_of_row wz (w.heap.size + 1) 1 _ _ (0, 0) (unhide HRA)
      have a2 := cell_of_row wz (w.heap.size + 1) 2 _ _ (0, 0) (unhide HRA)
      have a3 := cell_of_row wz (w.heap.size + 1) 3 _ _ (0, 0) (unhide HRA)
      have dx := cell_of_row wz w.heap.size 0 _ _ (0, 0) (unhide HDX)
      simp only [List.getElem?_toArray, List.getElem?_cons_zero, List.getElem?_cons_succ] at a0 a1 a2 a3 dx
      have f0 := cell_of_row wz w2.heap.size 0 _ _ (0, 0) (unhide HFX)
      have f1 := cell_of_row wz w2.heap.size 1 _ _ (0, 0) (unhide HFX)
      have f2 := cell_of_row wz w2.heap.size 2 _ _ (0, 0) (unhide HFX)
      simp only [List.getElem?_toArray, List.getElem?_cons_zero, List.getElem?_cons_succ] at f0 f1 f2
      clear hbW
      refine lateBegin (S := fun w' => w'.cell? ⟨w.heap.size, 0, none⟩ = some (.slice (some ⟨g, 0, none⟩) l.length c) ∧ w'.cell? ⟨w.heap.size + 1, 1, none⟩ = some (.string nm) ∧ w'.cell? ⟨w2.heap.size, 0, none⟩ = some (.string to) ∧ w'.cell? ⟨w2.heap.size, 1, none⟩ = some (.string ft) ∧ w'.cell? ⟨w2.heap.size, 2, none⟩ = some (.int .i64 fk)) 6 (by kernel_rfl) (⟨dx, a1, f0, f1, f2⟩) (fun hHeld => ?_)
      refine lateTake 0 (some 110) ?_ rfl (by kernel_rfl) (by kernel_rfl) (by kernel_rfl) (by kernel_rfl) rfl (fun _ _ _ h => h) (by rfl) (by assumption) ?_ ?_
      rotate_left
      · (intro w hSw; (try dsimp only at hSw); go_simp <;> with_reducible rfl)
      simp only [Act.put, List.setIfInBounds_toArray, List.set_cons_zero, List.set_cons_succ]
      refine lateTake 1 (some 111) ?_ rfl (by kernel_rfl) (by kernel_rfl) (by kernel_rfl) (by kernel_rfl) rfl (fun _ _ _ h => h) (by rfl) (by assumption) ?_ ?_
      rotate_left
      · (intro w hSw; (try dsimp only at hSw); go_simp <;> with_reducible rfl)
      simp only [Act.put, List.setIfInBounds_toArray, List.set_cons_zero, List.set_cons_succ]
      refine lateTake 2 (some 112) ?_ rfl (by kernel_rfl) (by kernel_rfl) (by kernel_rfl) (by kernel_rfl) rfl (fun _ _ _ h => h) (by rfl) (by assumption) ?_ ?_
      rotate_left
      · (intro w hSw; (try dsimp only at hSw); go_simp <;> with_reducible rfl)
      simp only [Act.put, List.setIfInBounds_toArray, List.set_cons_zero, List.set_cons_succ]
      refine lateTake 4 (some 114) ?_ rfl (by kernel_rfl) (by kernel_rfl) (by kernel_rfl) (by kernel_rfl) rfl (fun _ _ _ h => h) (by rfl) (by assumption) ?_ ?_
      rotate_left
      · (intro w hSw; (try dsimp only at hSw); go_simp <;> with_reducible rfl)
      simp only [Act.put, List.setIfInBounds_toArray, List.set_cons_zero, List.set_cons_succ]
      refine lateStep 3 (by kernel_rfl) rfl (by rfl) (fun K hK => ?_)
      go_simp
      refine (l03Without_any l nm _ B wz.drew (by omega) (unhide HOW)).mono ?_
      rintro e w3 ⟨v3, rfl, hown3, hb3⟩
      go_wp2_with fail
      refine hK.out _ _ (⟨(cell_on (w := wz.drew) hb3 hHeld.1), (cell_on (w := wz.drew) hb3 hHeld.2.1), (cell_on (w := wz.drew) hb3 hHeld.2.2.1), (cell_on (w := wz.drew) hb3 hHeld.2.2.2.1), (cell_on (w := wz.drew) hb3 hHeld.2.2.2.2)⟩) (fun hHeld2 => ?_)
      clear hK K hHeld
      have hHeld := hHeld2; clear hHeld2
      try simp only [Act.put, List.setIfInBounds_toArray, List.set_cons_zero, List.set_cons_succ]
      refine lateStep 5 (by kernel_rfl) rfl (by rfl) (fun K hK => ?_)
      go_simp
      refine (l03Put_any (withoutL l nm) ⟨to, ft, fk⟩ v3 _ w3 (by omega) hown3).mono ?_
      rintro e w4 ⟨v4, rfl, hown4, hb4⟩
      go_wp2_with fail
      refine hK.out _ _ (⟨(cell_on hb4 hHeld.1), (cell_on hb4 hHeld.2.1), (cell_on hb4 hHeld.2.2.1), (cell_on hb4 hHeld.2.2.2.1), (cell_on hb4 hHeld.2.2.2.2)⟩) (fun hHeld2 => ?_)
      clear hK K hHeld
      have hHeld := hHeld2; clear hHeld2
      try simp only [Act.put, List.setIfInBounds_toArray, List.set_cons_zero, List.set_cons_succ]
      have hB4 : Below wz.heap.size wz w4 := (Below.refl wz.heap.size wz).drew.trans (hb3.trans (hb4.mono hb3.size))
      have hz4 : wz.heap.size ≤ w4.heap.size := hB4.size
      have hz3 : wz.heap.size ≤ w3.heap.size := hb3.size
      replace HX := hide (row_on hB4 (unhide HX) (by omega))
      obtain ⟨xa, xn, xc, hv'⟩ : ∃ a n c, v4 = .slice a n c := by unfold OwnF at hown4; rcases hown4.2 with ⟨h, _⟩ | ⟨_, _, _, h, _⟩ <;> exact ⟨_, _, _, h⟩
      subst hv'
      have x0 := cell_of_row w4 (w2.heap.size + 1) 0 _ _ (0, 0) (unhide HX)
      have xz := frozen_of_row w4 (w2.heap.size + 1) 0 _ _ (unhide HX)
      simp only [List.getElem?_toArray, List.getElem?_cons_zero] at x0
      refine lateLast 6 (by decide) (by kernel_rfl) rfl (by rfl) (fun K hK => ?_)
      go_simp
      refine hK.out _ _ ?_
      clear hK K hHeld
      try simp only [Act.put, List.setIfInBounds_toArray, List.set_cons_zero, List.set_cons_succ]
      refine lateDone (by kernel_rfl) ?_ _
      replace HRA := hide (row_on hB4 (unhide HRA) (by omega))
      replace HR := hide (row_on hB4 (unhide HR) (by omega))
      replace HDX := hide (row_on hB4 (unhide HDX) (by omega))
      replace BB := hide ((unhide BB).trans (hB4.mono (by omega)))
      clear hB4 hb3 hb4 hown3 a0 a1 a2 a3 dx f0 f1 f2 HC2 HF HIF HFN HSL HOW HNT HFX
      generalize putL (withoutL l nm) ⟨to, ft, fk⟩ = lo at *
      obtain ⟨v4, hv4⟩ : ∃ v4, v4 = Value.slice xa xn xc := ⟨_, rfl⟩
      rw [← hv4] at hown4
      subst hv4
      have HX5 := hide (set1 (.slice xa xn xc) (unhide HX))
      have hown5 := ownsRow_setCell_below hown4 (a := ⟨w2.heap.size + 1, 0, none⟩) (by show w2.heap.size + 1 < _; omega) (.slice xa xn xc)
      have kk := cell_of_row _ (w2.heap.size + 1) 0 _ _ (0, 0) (unhide HX5)
      simp only [List.getElem?_toArray, List.getElem?_cons_zero] at kk
      have HB5 := hide ((unhide BB).setCell (p := ⟨w2.heap.size + 1, 0, none⟩) (by show w.heap.size ≤ w2.heap.size + 1; omega) (.slice xa xn xc))
      have HR5 := hide ((Below.heap_setCell w4 ⟨w2.heap.size + 1, 0, none⟩ (.slice xa xn xc) (w.heap.size + 2) (by show w.heap.size + 2 ≠ w2.heap.size + 1; omega)).trans (unhide HR))
      have hz5 : (w4.setCell ⟨w2.heap.size + 1, 0, none⟩ (.slice xa xn xc)).heap.size = w4.heap.size := by simp
      have HO5 := hide hown5
      clear hown4 hown5 HX BB HR HRA HDX
      go_wp2_with fail
      have HCK := hide (spec_DiskOk_big lo (.slice xa xn xc) _ (w4.setCell ⟨w2.heap.size + 1, 0, none⟩ (.slice xa xn xc)) (unhide HSM) (unhide HO5))
      generalize w4.setCell ⟨w2.heap.size + 1, 0, none⟩ (.slice xa xn xc) = w5 at *
      refine (unhide HCK).mono ?_
      rintro e w6 ⟨rfl, hb6⟩
      have HR6 := hide (row_on hb6 (unhide HR5) (by omega))
      have hx6 := row_on hb6 (unhide HX5) (by omega)
      have x6 := cell_of_row w6 (w2.heap.size + 1) 0 _ _ (0, 0) hx6
      simp only [List.getElem?_toArray, List.getElem?_cons_zero] at x6
      have HO6 := hide (own_stays (unhide HO5) hb6)
      have HB6 := hide ((unhide HB5).trans (hb6.mono (by omega)))
      have hz6 : w5.heap.size ≤ w6.heap.size := hb6.size
      clear HR5 hx6 HO5 HB5 hb6 HX5 kk HCK x0 xz
      cases hdo : diskB lo
      · obtain rfl : res = none := by rw [unhide HRL]; unfold rightL; rw [hdo]; rfl
        clear hdo
        have r0 := cell_of_row w6 (w.heap.size + 2) 0 _ _ (0, 0) (unhide HR6)
        have z0 := frozen_of_row w6 (w.heap.size + 2) 0 _ _ (unhide HR6)
        simp only [List.getElem?_toArray, List.getElem?_cons_zero] at r0
        have HRR := hide (set1 (.slice none 0 0) (unhide HR6))
        go_wp2
        refine bodyPost_ret (by rw [results_cell_tmp rfl]; simp [asAddr, run_loadVar_row _ _ _ _ _ _ _ (unhide HRR) Try.underlying26 rfl (by kernel_rfl)]; rfl) rfl ?_
        exact ⟨.slice none 0 0, rfl, World.ownsRow_nil _ _ _ _, (unhide HB6).setCell (by simp; omega) _⟩
      · obtain rfl : res = some lo := by rw [unhide HRL]; unfold rightL; rw [hdo]; rfl
        clear hdo
        have r0 := cell_of_row w6 (w.heap.size + 2) 0 _ _ (0, 0) (unhide HR6)
        have z0 := frozen_of_row w6 (w.heap.size + 2) 0 _ _ (unhide HR6)
        simp only [List.getElem?_toArray, List.getElem?_cons_zero] at r0
        have HRR := hide (set1 (.slice xa xn xc) (unhide HR6))
        have HOE := hide (ownsRow_setCell_below (unhide HO6) (a := ⟨w.heap.size + 2, 0, none⟩) (by show w.heap.size + 2 < _; omega) (.slice xa xn xc))
        have HBE := hide ((unhide HB6).setCell (p := ⟨w.heap.size + 2, 0, none⟩) (by show w.heap.size ≤ w.heap.size + 2; omega) (.slice xa xn xc))
        go_wp2
        refine bodyPost_ret (by rw [results_cell_tmp rfl]; simp [asAddr, run_loadVar_row _ _ _ _ _ _ _ (unhide HRR) Try.underlying26 rfl (by kernel_rfl)]; rfl) rfl ?_
        exact ⟨.slice xa xn xc, rfl, own_based (unhide HOE) (by omega), unhide HBE⟩
  have k3a : (kind == 3) = false := by simpa using k3
  obtain rfl : to = ByteArray.empty := by by_cases h : to = ByteArray.empty; exact h; exact absurd (.inl ⟨k3, h⟩) hbad
  go_wp2_with fail
  refine (l03At_any l nm _ B w1 (by omega) (unhide HOW)).mono ?_
  rintro e w2 ⟨rfl, hb2⟩
  have hsz2 : w1.heap.size ≤ w2.heap.size := hb2.size
  replace HOW := hide (own_stays (unhide HOW) hb2)
  replace HRA := hide (row_on hb2 (unhide HRA) (by omega))
  replace HR := hide (row_on hb2 (unhide HR) (by omega))
  replace HDX := hide (row_on hb2 (unhide HDX) (by omega))
  replace BB := hide ((unhide BB).trans (hb2.mono (by omega)))
  have hc2 : ∀ p : Addr, p.block < w.heap.size → w2.cell? p = w.cell? p := fun p hp => (unhide BB).cell hp
  have HC2 := hide hc2
  clear hb2 a0 a1 a2 a3 dx hc2
  have a0 := cell_of_row w2 (w.heap.size + 1) 0 _ _ (0, 0) (unhide HRA)
  have a1 := cell_of_row w2 (w.heap.size + 1) 1 _ _ (0, 0) (unhide HRA)
  have a2 := cell_of_row w2 (w.heap.size + 1) 2 _ _ (0, 0) (unhide HRA)
  have a3 := cell_of_row w2 (w.heap.size + 1) 3 _ _ (0, 0) (unhide HRA)
  have dx := cell_of_row w2 w.heap.size 0 _ _ (0, 0) (unhide HDX)
  simp only [List.getElem?_toArray, List.getElem?_cons_zero, List.getElem?_cons_succ] at a0 a1 a2 a3 dx
  have a0b := fun o => cell_on ((Below.refl w2.heap.size w2).alloc (Nat.le_refl _) o) a0
  have a0c := fun o o' => cell_on (((Below.refl w2.heap.size w2).alloc (Nat.le_refl _) o).alloc (by simp) o') a0
  have a1b := fun o => cell_on ((Below.refl w2.heap.size w2).alloc (Nat.le_refl _) o) a1
  have a1c := fun o o' => cell_on (((Below.refl w2.heap.size w2).alloc (Nat.le_refl _) o).alloc (by simp) o') a1
  have a2b := fun o => cell_on ((Below.refl w2.heap.size w2).alloc (Nat.le_refl _) o) a2
  have a2c := fun o o' => cell_on (((Below.refl w2.heap.size w2).alloc (Nat.le_refl _) o).alloc (by simp) o') a2
  have a3b := fun o => cell_on ((Below.refl w2.heap.size w2).alloc (Nat.le_refl _) o) a3
  have a3c := fun o o' => cell_on (((Below.refl w2.heap.size w2).alloc (Nat.le_refl _) o).alloc (by simp) o') a3
  have dxb := fun o => cell_on ((Below.refl w2.heap.size w2).alloc (Nat.le_refl _) o) dx
  have dxc := fun o o' => cell_on (((Below.refl w2.heap.size w2).alloc (Nat.le_refl _) o).alloc (by simp) o') dx
  have hif : LetBy l ⟨kind, nm, ByteArray.empty, ByteArray.empty⟩ := by
    rintro (h | h | h)
    · rw [unhide HDB] at h; cases h
    · rw [show nameB (⟨kind, nm, ByteArray.empty, ByteArray.empty⟩ : Ac).name = true from hnb] at h; cases h
    · exact hbad h
  have HIF := hide hif
  clear hif
  cases hp : posL l nm.toList with
  | none =>
    have hpi : posI l nm.toList = -1 := by unfold posI; rw [hp]
    have hf := fileOf_nopos hp
    rw [hpi]
    clear hp hpi
    obtain rfl : res = none := by rw [unhide HSP]; exact specL_none (unhide HIF) (by show ¬ kind = 1; omega) hf
    have HRW := hide (row_on (((Below.refl w2.heap.size w2).alloc (Nat.le_refl _) (.cells #[.string nm, .string ⟨#[]⟩, .int .i64 0] 55)).alloc (by simp) (.cells #[.slice none 0 0] 26)) (unhide HR) (by omega))
    have HBW := hide (((unhide BB).alloc (by omega) (.cells #[.string nm, .string ⟨#[]⟩, .int .i64 0] 55)).alloc (by simp; omega) (.cells #[.slice none 0 0] 26))
    clear hf
    have r0 := cell_of_row ((w2.alloc (.cells #[.string nm, .string ⟨#[]⟩, .int .i64 0] 55)).alloc (.cells #[.slice none 0 0] 26)) (w.heap.size + 2) 0 _ _ (0, 0) (unhide HRW)
    have z0 := frozen_of_row ((w2.alloc (.cells #[.string nm, .string ⟨#[]⟩, .int .i64 0] 55)).alloc (.cells #[.slice none 0 0] 26)) (w.heap.size + 2) 0 _ _ (unhide HRW)
    simp only [List.getElem?_toArray, List.getElem?_cons_zero] at r0
    have HRR := hide (set1 (.slice none 0 0) (unhide HRW))
    go_wp2
    refine bodyPost_ret (by rw [results_cell_tmp rfl]; simp [asAddr, run_loadVar_row _ _ _ _ _ _ _ (unhide HRR) Try.underlying26 rfl (by kernel_rfl)]; rfl) rfl ?_
    exact ⟨.slice none 0 0, rfl, World.ownsRow_nil _ _ _ _, (unhide HBW).setCell (by simp; omega) _⟩
  | some k =>
    have hpi : posI l nm.toList = (k : Int) := by unfold posI; rw [hp]
    obtain ⟨f, hlk, hf⟩ := fileOf_pos hp
    obtain ⟨g, hga, hgl, c0, c1, c2⟩ := unhide HC k f hlk
    obtain ⟨hfm, hfn⟩ := fileOf_mem hf
    obtain ⟨p1, p2, p3, p4⟩ := fileB_parts ((unhide HDR).2.1 f hfm)
    have hkl : k < l.length := (List.getElem?_eq_some_iff.1 hlk).1
    rw [← unhide HC2 ⟨g, _, none⟩ hgl] at c0 c1 c2
    subst hga
    rw [hpi]
    have hik : (0 : Int) ≤ (k : Int) := by omega
    have hil : (k : Int) < (l.length : Int) := by omega
    have HF := hide hf
    have HFN := hide hfn
    have hns : f.name.size ≤ 1048576 := by rw [hfn]; exact h1
    clear hp hpi hlk hfm hf hfn
    obtain ⟨fn, ft, fk⟩ := f
    simp only at c0 c1 c2 p1 p2 p3 p4 hns
    have c0b := fun o => cell_on ((Below.refl w2.heap.size w2).alloc (Nat.le_refl _) o) c0
    have c0c := fun o o' => cell_on (((Below.refl w2.heap.size w2).alloc (Nat.le_refl _) o).alloc (by simp) o') c0
    have c1b := fun o => cell_on ((Below.refl w2.heap.size w2).alloc (Nat.le_refl _) o) c1
    have c1c := fun o o' => cell_on (((Below.refl w2.heap.size w2).alloc (Nat.le_refl _) o).alloc (by simp) o') c1
    have c2b := fun o => cell_on ((Below.refl w2.heap.size w2).alloc (Nat.le_refl _) o) c2
    have c2c := fun o o' => cell_on (((Below.refl w2.heap.size w2).alloc (Nat.le_refl _) o).alloc (by simp) o') c2
    by_cases k2 : kind = 2
    · subst k2
      have hbW := ((Below.refl w2.heap.size w2).alloc (Nat.le_refl _) (.cells #[.string fn, .string ft, .int .i64 (ft.size : Int)] 55)).alloc (by simp) (.cells #[.slice none 0 0] 26)
      have hzW : ((w2.alloc (.cells #[.string fn, .string ft, .int .i64 (ft.size : Int)] 55)).alloc (.cells #[.slice none 0 0] 26)).heap.size = w2.heap.size + 2 := by simp
      have HX := hide (show ((w2.alloc (.cells #[.string fn, .string ft, .int .i64 (ft.size : Int)] 55)).alloc (.cells #[.slice none 0 0] 26)).heap[w2.heap.size + 1]? = some (.cells #[.slice none 0 0] 26 (0, 0)) from heap_alloc2_new _ _ _)
      have HCALL := hide (l03Put_any l ⟨fn, ft, (ft.size : Int)⟩ _ B ((w2.alloc (.cells #[.string fn, .string ft, .int .i64 (ft.size : Int)] 55)).alloc (.cells #[.slice none 0 0] 26)) (by omega) (own_stays (unhide HOW) hbW))
      have HSM := hide (show SmallF 4194304 (putL l ⟨fn, ft, (ft.size : Int)⟩) from putL_small (unhide HSL) (by show fn.size ≤ _; omega) (by show ft.size ≤ _; omega) (by omega))
      have HRL := hide (show res = rightL (putL l ⟨fn, ft, (ft.size : Int)⟩) from by rw [unhide HSP]; exact specL_keep (unhide HIF) rfl (unhide HF))
      clear HSP HSL HOW
      go_wp2_with fail
      generalize putL l ⟨fn, ft, (ft.size : Int)⟩ = lo at *
      generalize (w2.alloc (.cells #[.string fn, .string ft, .int .i64 (ft.size : Int)] 55)).alloc (.cells #[.slice none 0 0] 26) = wz at *
      refine (unhide HCALL).mono ?_
      rintro e w4 ⟨v4, rfl, hown4, hb4⟩
      replace HX := hide (row_on hb4 (unhide HX) (by omega))
      replace HRA := hide (row_on hb4 (row_on hbW (unhide HRA) (by omega)) (by omega))
      replace HR := hide (row_on hb4 (row_on hbW (unhide HR) (by omega)) (by omega))
      replace HDX := hide (row_on hb4 (row_on hbW (unhide HDX) (by omega)) (by omega))
      replace BB := hide ((unhide BB).trans ((hbW.mono (by omega)).trans (hb4.mono (by omega))))
      have hz4 : wz.heap.size ≤ w4.heap.size := hb4.size
      clear hb4 hbW HCALL HC2 a0 a1 a2 a3 dx HF HIF HFN c0 c1 c2 c0b c1b c2b c0c c1c c2c a0b a1b a2b a3b dxb a0c a1c a2c a3c dxc
      obtain ⟨xa, xn, xc, hv'⟩ : ∃ a n c, v4 = .slice a n c := by unfold OwnF at hown4; rcases hown4.2 with ⟨h, _⟩ | ⟨_, _, _, h, _⟩ <;> exact ⟨_, _, _, h⟩
      subst hv'
      have x0 := cell_of_row w4 (w2.heap.size + 1) 0 _ _ (0, 0) (unhide HX)
      have xz := frozen_of_row w4 (w2.heap.size + 1) 0 _ _ (unhide HX)
      simp only [List.getElem?_toArray, List.getElem?_cons_zero] at x0
      have HX5 := hide (set1 (.slice xa xn xc) (unhide HX))
      have hown5 := ownsRow_setCell_below hown4 (a := ⟨w2.heap.size + 1, 0, none⟩) (by show w2.heap.size + 1 < _; omega) (.slice xa xn xc)
      have kk := cell_of_row _ (w2.heap.size + 1) 0 _ _ (0, 0) (unhide HX5)
      simp only [List.getElem?_toArray, List.getElem?_cons_zero] at kk
      have HB5 := hide ((unhide BB).setCell (p := ⟨w2.heap.size + 1, 0, none⟩) (by show w.heap.size ≤ w2.heap.size + 1; omega) (.slice xa xn xc))
      have HR5 := hide ((Below.heap_setCell w4 ⟨w2.heap.size + 1, 0, none⟩ (.slice xa xn xc) (w.heap.size + 2) (by show w.heap.size + 2 ≠ w2.heap.size + 1; omega)).trans (unhide HR))
      have hz5 : (w4.setCell ⟨w2.heap.size + 1, 0, none⟩ (.slice xa xn xc)).heap.size = w4.heap.size := by simp
      have HO5 := hide hown5
      clear hown4 hown5 HX BB HR HRA HDX
      go_wp2_with fail
      have HCK := hide (spec_DiskOk_big lo (.slice xa xn xc) _ (w4.setCell ⟨w2.heap.size + 1, 0, none⟩ (.slice xa xn xc)) (unhide HSM) (unhide HO5))
      generalize w4.setCell ⟨w2.heap.size + 1, 0, none⟩ (.slice xa xn xc) = w5 at *
      refine (unhide HCK).mono ?_
      rintro e w6 ⟨rfl, hb6⟩
      have HR6 := hide (row_on hb6 (unhide HR5) (by omega))
      have hx6 := row_on hb6 (unhide HX5) (by omega)
      have x6 := cell_of_row w6 (w2.heap.size + 1) 0 _ _ (0, 0) hx6
      simp only [List.getElem?_toArray, List.getElem?_cons_zero] at x6
      have HO6 := hide (own_stays (unhide HO5) hb6)
      have HB6 := hide ((unhide HB5).trans (hb6.mono (by omega)))
      have hz6 : w5.heap.size ≤ w6.heap.size := hb6.size
      clear HR5 hx6 HO5 HB5 hb6 HX5 kk HCK x0 xz
      cases hdo : diskB lo
      · obtain rfl : res = none := by rw [unhide HRL]; unfold rightL; rw [hdo]; rfl
        clear hdo
        have r0 := cell_of_row w6 (w.heap.size + 2) 0 _ _ (0, 0) (unhide HR6)
        have z0 := frozen_of_row w6 (w.heap.size + 2) 0 _ _ (unhide HR6)
        simp only [List.getElem?_toArray, List.getElem?_cons_zero] at r0
        have HRR := hide (set1 (.slice none 0 0) (unhide HR6))
        go_wp2
        refine bodyPost_ret (by rw [results_cell_tmp rfl]; simp [asAddr, run_loadVar_row _ _ _ _ _ _ _ (unhide HRR) Try.underlying26 rfl (by kernel_rfl)]; rfl) rfl ?_
        exact ⟨.slice none 0 0, rfl, World.ownsRow_nil _ _ _ _, (unhide HB6).setCell (by simp; omega) _⟩
      · obtain rfl : res = some lo := by rw [unhide HRL]; unfold rightL; rw [hdo]; rfl
        clear hdo
        have r0 := cell_of_row w6 (w.heap.size + 2) 0 _ _ (0, 0) (unhide HR6)
        have z0 := frozen_of_row w6 (w.heap.size + 2) 0 _ _ (unhide HR6)
        simp only [List.getElem?_toArray, List.getElem?_cons_zero] at r0
        have HRR := hide (set1 (.slice xa xn xc) (unhide HR6))
        have HOE := hide (ownsRow_setCell_below (unhide HO6) (a := ⟨w.heap.size + 2, 0, none⟩) (by show w.heap.size + 2 < _; omega) (.slice xa xn xc))
        have HBE := hide ((unhide HB6).setCell (p := ⟨w.heap.size + 2, 0, none⟩) (by show w.heap.size ≤ w.heap.size + 2; omega) (.slice xa xn xc))
        go_wp2
        refine bodyPost_ret (by rw [results_cell_tmp rfl]; simp [asAddr, run_loadVar_row _ _ _ _ _ _ _ (unhide HRR) Try.underlying26 rfl (by kernel_rfl)]; rfl) rfl ?_
        exact ⟨.slice xa xn xc, rfl, own_based (unhide HOE) (by omega), unhide HBE⟩
    have k2a : (kind == 2) = false := by simpa using k2
    by_cases k4 : kind = 4
    · subst k4
      have hbW := ((Below.refl w2.heap.size w2).alloc (Nat.le_refl _) (.cells #[.string fn, .string ft, .int .i64 fk] 55)).alloc (by simp) (.cells #[.slice none 0 0] 26)
      have hzW : ((w2.alloc (.cells #[.string fn, .string ft, .int .i64 fk] 55)).alloc (.cells #[.slice none 0 0] 26)).heap.size = w2.heap.size + 2 := by simp
      have HX := hide (show ((w2.alloc (.cells #[.string fn, .string ft, .int .i64 fk] 55)).alloc (.cells #[.slice none 0 0] 26)).heap[w2.heap.size + 1]? = some (.cells #[.slice none 0 0] 26 (0, 0)) from heap_alloc2_new _ _ _)
      have HCALL := hide (l03Without_any l nm _ B ((w2.alloc (.cells #[.string fn, .string ft, .int .i64 fk] 55)).alloc (.cells #[.slice none 0 0] 26)) (by omega) (own_stays (unhide HOW) hbW))
      have HSM := hide (show SmallF 4194304 (withoutL l nm) from withoutL_small nm (unhide HSL))
      have HRL := hide (show res = rightL (withoutL l nm) from by rw [unhide HSP]; exact specL_drop (unhide HIF) rfl (unhide HF))
      clear HSP HSL HOW
      go_wp2_with fail
      generalize withoutL l nm = lo at *
      generalize (w2.alloc (.cells #[.string fn, .string ft, .int .i64 fk] 55)).alloc (.cells #[.slice none 0 0] 26) = wz at *
      refine (unhide HCALL).mono ?_
      rintro e w4 ⟨v4, rfl, hown4, hb4⟩
      replace HX := hide (row_on hb4 (unhide HX) (by omega))
      replace HRA := hide (row_on hb4 (row_on hbW (unhide HRA) (by omega)) (by omega))
      replace HR := hide (row_on hb4 (row_on hbW (unhide HR) (by omega)) (by omega))
      replace HDX := hide (row_on hb4 (row_on hbW (unhide HDX) (by omega)) (by omega))
      replace BB := hide ((unhide BB).trans ((hbW.mono (by omega)).trans (hb4.mono (by omega))))
      have hz4 : wz.heap.size ≤ w4.heap.size := hb4.size
      clear hb4 hbW HCALL HC2 a0 a1 a2 a3 dx HF HIF HFN c0 c1 c2 c0b c1b c2b c0c c1c c2c a0b a1b a2b a3b dxb a0c a1c a2c a3c dxc
      obtain ⟨xa, xn, xc, hv'⟩ : ∃ a n c, v4 = .slice a n c := by unfold OwnF at hown4; rcases hown4.2 with ⟨h, _⟩ | ⟨_, _, _, h, _⟩ <;> exact ⟨_, _, _, h⟩
      subst hv'
      have x0 := cell_of_row w4 (w2.heap.size + 1) 0 _ _ (0, 0) (unhide HX)
      have xz := frozen_of_row w4 (w2.heap.size + 1) 0 _ _ (unhide HX)
      simp only [List.getElem?_toArray, List.getElem?_cons_zero] at x0
      have HX5 := hide (set1 (.slice xa xn xc) (unhide HX))
      have hown5 := ownsRow_setCell_below hown4 (a := ⟨w2.heap.size + 1, 0, none⟩) (by show w2.heap.size + 1 < _; omega) (.slice xa xn xc)
      have kk := cell_of_row _ (w2.heap.size + 1) 0 _ _ (0, 0) (unhide HX5)
      simp only [List.getElem?_toArray, List.getElem?_cons_zero] at kk
      have HB5 := hide ((unhide BB).setCell (p := ⟨w2.heap.size + 1, 0, none⟩) (by show w.heap.size ≤ w2.heap.size + 1; omega) (.slice xa xn xc))
      have HR5 := hide ((Below.heap_setCell w4 ⟨w2.heap.size + 1, 0, none⟩ (.slice xa xn xc) (w.heap.size + 2) (by show w.heap.size + 2 ≠ w2.heap.size + 1; omega)).trans (unhide HR))
      have hz5 : (w4.setCell ⟨w2.heap.size + 1, 0, none⟩ (.slice xa xn xc)).heap.size = w4.heap.size := by simp
      have HO5 := hide hown5
      clear hown4 hown5 HX BB HR HRA HDX
      go_wp2_with fail
      have HCK := hide (spec_DiskOk_big lo (.slice xa xn xc) _ (w4.setCell ⟨w2.heap.size + 1, 0, none⟩ (.slice xa xn xc)) (unhide HSM) (unhide HO5))
      generalize w4.setCell ⟨w2.heap.size + 1, 0, none⟩ (.slice xa xn xc) = w5 at *
      refine (unhide HCK).mono ?_
      rintro e w6 ⟨rfl, hb6⟩
      have HR6 := hide (row_on hb6 (unhide HR5) (by omega))
      have hx6 := row_on hb6 (unhide HX5) (by omega)
      have x6 := cell_of_row w6 (w2.heap.size + 1) 0 _ _ (0, 0) hx6
      simp only [List.getElem?_toArray, List.getElem?_cons_zero] at x6
      have HO6 := hide (own_stays (unhide HO5) hb6)
      have HB6 := hide ((unhide HB5).trans (hb6.mono (by omega)))
      have hz6 : w5.heap.size ≤ w6.heap.size := hb6.size
      clear HR5 hx6 HO5 HB5 hb6 HX5 kk HCK x0 xz
      cases hdo : diskB lo
      · obtain rfl : res = none := by rw [unhide HRL]; unfold rightL; rw [hdo]; rfl
        clear hdo
        have r0 := cell_of_row w6 (w.heap.size + 2) 0 _ _ (0, 0) (unhide HR6)
        have z0 := frozen_of_row w6 (w.heap.size + 2) 0 _ _ (unhide HR6)
        simp only [List.getElem?_toArray, List.getElem?_cons_zero] at r0
        have HRR := hide (set1 (.slice none 0 0) (unhide HR6))
        go_wp2
        refine bodyPost_ret (by rw [results_cell_tmp rfl]; simp [asAddr, run_loadVar_row _ _ _ _ _ _ _ (unhide HRR) Try.underlying26 rfl (by kernel_rfl)]; rfl) rfl ?_
        exact ⟨.slice none 0 0, rfl, World.ownsRow_nil _ _ _ _, (unhide HB6).setCell (by simp; omega) _⟩
      · obtain rfl : res = some lo := by rw [unhide HRL]; unfold rightL; rw [hdo]; rfl
        clear hdo
        have r0 := cell_of_row w6 (w.heap.size + 2) 0 _ _ (0, 0) (unhide HR6)
        have z0 := frozen_of_row w6 (w.heap.size + 2) 0 _ _ (unhide HR6)
        simp only [List.getElem?_toArray, List.getElem?_cons_zero] at r0
        have HRR := hide (set1 (.slice xa xn xc) (unhide HR6))
        have HOE := hide (ownsRow_setCell_below (unhide HO6) (a := ⟨w.heap.size + 2, 0, none⟩) (by show w.heap.size + 2 < _; omega) (.slice xa xn xc))
        have HBE := hide ((unhide HB6).setCell (p := ⟨w.heap.size + 2, 0, none⟩) (by show w.heap.size ≤ w.heap.size + 2; omega) (.slice xa xn xc))
        go_wp2
        refine bodyPost_ret (by rw [results_cell_tmp rfl]; simp [asAddr, run_loadVar_row _ _ _ _ _ _ _ (unhide HRR) Try.underlying26 rfl (by kernel_rfl)]; rfl) rfl ?_
        exact ⟨.slice xa xn xc, rfl, own_based (unhide HOE) (by omega), unhide HBE⟩
    have k4a : (kind == 4) = false := by simpa using k4
    obtain rfl : res = none := by rw [unhide HSP]; exact specL_odd (unhide HIF) k1 k2 k3 k4 (unhide HF)
    have HRW := hide (row_on (((Below.refl w2.heap.size w2).alloc (Nat.le_refl _) (.cells #[.string fn, .string ft, .int .i64 fk] 55)).alloc (by simp) (.cells #[.slice none 0 0] 26)) (unhide HR) (by omega))
    have HBW := hide (((unhide BB).alloc (by omega) (.cells #[.string fn, .string ft, .int .i64 fk] 55)).alloc (by simp; omega) (.cells #[.slice none 0 0] 26))
    have r0 := cell_of_row ((w2.alloc (.cells #[.string fn, .string ft, .int .i64 fk] 55)).alloc (.cells #[.slice none 0 0] 26)) (w.heap.size + 2) 0 _ _ (0, 0) (unhide HRW)
    have z0 := frozen_of_row ((w2.alloc (.cells #[.string fn, .string ft, .int .i64 fk] 55)).alloc (.cells #[.slice none 0 0] 26)) (w.heap.size + 2) 0 _ _ (unhide HRW)
    simp only [List.getElem?_toArray, List.getElem?_cons_zero] at r0
    have HRR := hide (set1 (.slice none 0 0) (unhide HRW))
    go_wp2
    refine bodyPost_ret (by rw [results_cell_tmp rfl]; simp [asAddr, run_loadVar_row _ _ _ _ _ _ _ (unhide HRR) Try.underlying26 rfl (by kernel_rfl)]; rfl) rfl ?_
    exact ⟨.slice none 0 0, rfl, World.ownsRow_nil _ _ _ _, (unhide HBW).setCell (by simp; omega) _⟩

theorem spec_DoAct_any (l : List Fl) (a : Ac) (v : Value) (B : Nat) (w : World) (hs : SmallF 1048576 l) (ha : SmallA 1048576 a) (h : OwnF B w v l) :
    Calls Try.prog 23 #[.agg #[v], .agg (ac a)] w fun e w' => ∃ v', e = .returned (.tuple #[.agg #[v'], .bool (doneL l a).isSome]) ∧ OwnF w.heap.size w' v' ((doneL l a).getD []) ∧ Below w.heap.size w w' := by
  rw [← specL_done]
  exact spec_DoAct_is l a v B w hs ha h
end Go.Proofs.Ytnlcknklghalkaa
