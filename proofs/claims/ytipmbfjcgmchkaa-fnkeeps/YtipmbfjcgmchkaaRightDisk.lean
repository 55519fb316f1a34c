/- The draws of the laws: a right disk. -/
import Derived.Test.YtipmbfjcgmchkaaDrawDisk
namespace Go.Proofs.Ytipmbfjcgmchkaa
open Go.RowKit
open Plain
set_option linter.unusedVariables false
set_option linter.unusedSimpArgs false

theorem row_grown {w w' : World} {b c : Nat} {o : Obj} (h : w.heap[b]? = some o) (hg : w.grownBy w' (some c)) (hne : b ≠ c) : w'.heap[b]? = some o := (hg.block b (row_lt h) (by intro e; exact hne (Option.some.inj e))).trans h
theorem own_grown {w w' : World} {B n m c : Nat} {e t : TypeId} {v : Value} {xs : List Value} {cs : Array Value} {fr : Nat × Nat} (h : w.ownsRow B e m v n xs) (hg : w.grownBy w' (some c)) (hc : w.heap[c]? = some (.cells cs t fr)) (ht : t ≠ e) : w'.ownsRow B e m v n xs := by
  refine ⟨h.1, ?_⟩
  rcases h.2 with h2 | ⟨g, cap, cur, hv, hB, hh, h3⟩
  · exact .inl h2
  · refine .inr ⟨g, cap, cur, hv, hB, (hg.block g (row_lt hh) fun eq => ?_).trans hh, h3⟩
    have eq : g = c := Option.some.inj eq
    subst eq
    rw [hc] at hh
    cases hh
    exact ht rfl
theorem Cur.row {B c : Nat} {w : World} (h : Cur B w c) : ∃ cs, w.heap[c]? = some (.cells cs 97 (0, 0)) := by
  obtain ⟨a, len, cap, i, hh, h1, h2, h3, h4⟩ := h
  exact ⟨_, h4⟩
theorem Cur.up {B c : Nat} {w w' : World} (h : Cur B w c) (hb : Below w.heap.size w w') : Cur B w' c := h.kept (grown_of_below hb none) (fun k hk => by cases hk)
theorem Cur.set {B c b : Nat} {w : World} {u x : Value} {t : TypeId} (h : Cur B w c) (hr : w.heap[b]? = some (.cells #[x] t (0, 0))) (hb : c < b) : Cur B (w.setCell ⟨b, 0, none⟩ u) c := h.kept (grown_set w ⟨b, 0, none⟩ u) (fun k hk => by cases hk; exact hb)

set_option maxHeartbeats 4000000 in
set_option maxRecDepth 100000 in
theorem DrawRightDisk_any (B len cap : Nat) (a : Option Addr) (w : World) (ha : Arg B w a len) (hB : B ≤ w.heap.size) :
    Calls Try.prog 10 #[.slice a len cap] w fun e w' => ∃ (v : Value) (l : List Fl), e = .returned (.agg #[v]) ∧ DiskR l ∧ OwnF w.heap.size w' v l ∧ Below w.heap.size w w' := by
  have hb0 := (Below.refl w.heap.size w).alloc (Nat.le_refl _) (.cells #[.slice none 0 0] 26)
  have hr0 : (w.alloc (.cells #[.slice none 0 0] 26)).heap[w.heap.size]? = some (.cells #[.slice none 0 0] 26 (0, 0)) := heap_alloc_new _ _
  have hz0 : (w.alloc (.cells #[.slice none 0 0] 26)).heap.size = w.heap.size + 1 := by simp
  have QN := hide (l01New_any B len cap a (w.alloc (.cells #[.slice none 0 0] 26)) (ha.below (hb0.mono hB)) (by omega))
  rw [hz0] at QN
  clear ha
  go_enter Try.func10, Try.ntmps10
  go_wp2_with fail
  refine (unhide QN).mono ?_
  rintro e w1 ⟨rfl, hc1, hg1⟩
  have hbel1 : Below w.heap.size w w1 := hb0.grown hg1 (by omega) (fun k hk => by cases hk)
  have hR1 := (hg1.block w.heap.size (by omega) (by simp)).trans hr0
  have hz1 : w.heap.size + 1 < w1.heap.size := hc1.lt.2
  clear hb0 hr0 hz0 QN hg1
  go_wp2
  have hbx := (Below.refl w1.heap.size w1).alloc (Nat.le_refl _) (.cells #[.slice none 0 0] 26)
  have hx1 : (w1.alloc (.cells #[.slice none 0 0] 26)).heap[w1.heap.size]? = some (.cells #[.slice none 0 0] 26 (0, 0)) := heap_alloc_new _ _
  generalize w1.alloc (.cells #[.slice none 0 0] 26) = W at *
  obtain ⟨bd, hbd⟩ : ∃ b, b = w1.heap.size := ⟨_, rfl⟩
  rw [← hbd] at hx1 ⊢
  have HR := hide (row_up hR1 hbx)
  have HB := hide (hbel1.trans (hbx.mono (by omega)))
  have hcW := hc1.up hbx
  have hzb : w.heap.size + 1 < bd := by omega
  have HX := hide hx1
  have HC := hide hcW
  have hzW : bd < W.heap.size := row_lt hx1
  clear hbx hx1 hbel1 hR1 hc1 hcW hbd hz1
  go_loopw [5] (fun i wr => ∃ (k : Nat) (l : List Fl) (ov : Value), k ≤ 5 ∧ i = .int .i64 k ∧ l.length ≤ k ∧ DiskR l ∧ wr.heap[bd]? = some (.cells #[ov] 26 (0, 0)) ∧ OwnF w.heap.size wr ov l ∧ Cur B wr (w.heap.size + 1) ∧ wr.heap[w.heap.size]? = some (.cells #[.slice none 0 0] 26 (0, 0)) ∧ Below w.heap.size w wr) (fun i _ => 5 - (intOf i).toNat)
  case atStart => exact ⟨0, [], _, by omega, rfl, Nat.zero_le _, ⟨by simp, fun i f hf => by simp at hf⟩, unhide HX, World.ownsRow_nil _ _ _ _, unhide HC, unhide HR, unhide HB⟩
  case round =>
    obtain ⟨k, l, ov, hk, rfl, hlk, hD, hx, hown, hcr, hrr, hbel⟩ := hrel
    have hHD := hide hD; have HXr := hide hx; have HOr := hide hown; have HRr := hide hrr; have HBr := hide hbel
    have Q6 := hide (l01Below_any B (w.heap.size + 1) 6 wr hcr (by omega) (by omega))
    have HCr := hide hcr
    have hxl := row_lt hx
    clear hD hx hown hrr hbel hcr HX HC HR HB
    go_wp2_with fail
    refine (unhide Q6).mono ?_
    rintro e w2 ⟨x, hx6, rfl, hc2, hg2⟩
    obtain ⟨cs2, hcs2⟩ := (unhide HCr).row
    have HX2 := hide (row_grown (unhide HXr) hg2 (by omega))
    have HR2 := hide (row_grown (unhide HRr) hg2 (by omega))
    have HO2 := hide (own_grown (unhide HOr) hg2 hcs2 (by decide))
    have HB2 := hide ((unhide HBr).grown hg2 (by have := (unhide HBr).size; omega) (fun q hq => by cases hq; omega))
    have hz2 : wr.heap.size ≤ w2.heap.size := hg2.size
    have HC2 := hide hc2
    clear hg2 hcs2 HXr HRr HOr HBr HCr hc2
    by_cases hlt : k < x
    · have hltI : (k : Int) < (x : Int) := by omega
      have Q30 := hide (l01Below_any B (w.heap.size + 1) 30 w2 (unhide HC2) (by omega) (by omega))
      go_wp2_with fail
      refine (unhide Q30).mono ?_
      rintro e w3 ⟨n, hn30, rfl, hc3, hg3⟩
      obtain ⟨cs3, hcs3⟩ := (unhide HC2).row
      replace HX2 := hide (row_grown (unhide HX2) hg3 (by omega))
      replace HR2 := hide (row_grown (unhide HR2) hg3 (by omega))
      replace HO2 := hide (own_grown (unhide HO2) hg3 hcs3 (by decide))
      replace HB2 := hide ((unhide HB2).grown hg3 (by have := (unhide HB2).size; omega) (fun q hq => by cases hq; omega))
      have hz3 : w2.heap.size ≤ w3.heap.size := hg3.size
      have QT := hide (l01Text_any B (w.heap.size + 1) n w3 hc3 (by omega))
      have HC3 := hide hc3
      clear hg3 hcs3 hc3 HC2
      go_wp2_with fail
      refine (unhide QT).mono ?_
      rintro e w4 ⟨tl, htl, rfl, hc4, hg4⟩
      obtain ⟨cs4, hcs4⟩ := (unhide HC3).row
      replace HX2 := hide (row_grown (unhide HX2) hg4 (by omega))
      replace HR2 := hide (row_grown (unhide HR2) hg4 (by omega))
      replace HO2 := hide (own_grown (unhide HO2) hg4 hcs4 (by decide))
      replace HB2 := hide ((unhide HB2).grown hg4 (by have := (unhide HB2).size; omega) (fun q hq => by cases hq; omega))
      have hz4 : w3.heap.size ≤ w4.heap.size := hg4.size
      have HC4 := hide hc4
      obtain ⟨tx, htx⟩ : ∃ t : ByteArray, t = ⟨tl.toArray⟩ := ⟨_, rfl⟩
      rw [← htx]
      have hts : tx.size ≤ 29 := by rw [htx]; show tl.toArray.size ≤ 29; simp; omega
      clear hg4 hcs4 hc4 HC3 htl htx QT Q30 Q6
      have QNM := hide (fun W hW => l03Named_any B (w.heap.size + 1) W hW)
      have QK := hide (fun W hW => l01Below_any B (w.heap.size + 1) (tx.size + 1) W hW (by omega) (by omega))
      have hcast : ((tx.size + 1 : Nat) : Int) = (tx.size : Int) + 1 := by omega
      rw [hcast] at QK
      clear hcast
      have QP := hide (fun f W v h => l03Put_any l f v w.heap.size W (by omega) h)
      go_wp2
      have bx4 := row_cell (unhide HX2)
      have hwr : IntKind.i64.wrap ((tx.size : Int) + 1) = (tx.size : Int) + 1 := by rw [IntKind.wrap_i64]; omega
      have hb4 : bd < w4.heap.size := row_lt (unhide HX2)
      have keepC : Hid (∀ (wa wb : World), wa.grownBy wb (some (w.heap.size + 1)) → wa.cell? ⟨bd, 0, none⟩ = some ov → bd < wa.heap.size → wb.cell? ⟨bd, 0, none⟩ = some ov) := fun wa wb hg hc hl => (World.cell?_of_block (hg.block bd hl (by intro e; have := Option.some.inj e; omega))).trans hc
      refine lateBegin (S := fun w' => w'.cell? ⟨bd, 0, none⟩ = some ov) 11 (by kernel_rfl) (bx4) (fun hHeld => ?_)
      refine lateTake 0 (some 20) ?_ rfl (by kernel_rfl) (by kernel_rfl) (by kernel_rfl) (by kernel_rfl) rfl (fun _ _ _ h => h) (by rfl) (by assumption) ?_ ?_
      rotate_left
      · (intro w hSw; (try dsimp only at hSw); go_simp <;> with_reducible rfl)
      simp only [Act.put, List.setIfInBounds_toArray, List.set_cons_zero, List.set_cons_succ]
      refine lateTake 1 (some 21) ?_ rfl (by kernel_rfl) (by kernel_rfl) (by kernel_rfl) (by kernel_rfl) rfl (fun _ _ _ h => h) (by rfl) (by assumption) ?_ ?_
      rotate_left
      · (intro w hSw; (try dsimp only at hSw); go_simp <;> with_reducible rfl)
      simp only [Act.put, List.setIfInBounds_toArray, List.set_cons_zero, List.set_cons_succ]
      refine lateTake 3 (some 23) ?_ rfl (by kernel_rfl) (by kernel_rfl) (by kernel_rfl) (by kernel_rfl) rfl (fun _ _ _ h => h) (by rfl) (by assumption) ?_ ?_
      rotate_left
      · (intro w hSw; (try dsimp only at hSw); go_simp <;> with_reducible rfl)
      simp only [Act.put, List.setIfInBounds_toArray, List.set_cons_zero, List.set_cons_succ]
      refine lateTake 4 (some 24) ?_ rfl (by kernel_rfl) (by kernel_rfl) (by kernel_rfl) (by kernel_rfl) rfl (fun _ _ _ h => h) (by rfl) (by assumption) ?_ ?_
      rotate_left
      · (intro w hSw; (try dsimp only at hSw); go_simp <;> with_reducible rfl)
      simp only [Act.put, List.setIfInBounds_toArray, List.set_cons_zero, List.set_cons_succ]
      refine lateTake 5 (some 25) ?_ rfl (by kernel_rfl) (by kernel_rfl) (by kernel_rfl) (by kernel_rfl) rfl (fun _ _ _ h => h) (by rfl) (by assumption) ?_ ?_
      rotate_left
      · (intro w hSw; (try dsimp only at hSw); go_simp <;> with_reducible rfl)
      simp only [Act.put, List.setIfInBounds_toArray, List.set_cons_zero, List.set_cons_succ]
      refine lateTake 6 (some 26) ?_ rfl (by kernel_rfl) (by kernel_rfl) (by kernel_rfl) (by kernel_rfl) rfl (fun _ _ _ h => h) (by rfl) (by assumption) ?_ ?_
      rotate_left
      · (intro w hSw; (try dsimp only at hSw); go_simp <;> with_reducible rfl)
      simp only [Act.put, List.setIfInBounds_toArray, List.set_cons_zero, List.set_cons_succ]
      refine lateTake 7 (some 27) ?_ rfl (by kernel_rfl) (by kernel_rfl) (by kernel_rfl) (by kernel_rfl) rfl (fun _ _ _ h => h) (by rfl) (by assumption) ?_ ?_
      rotate_left
      · (intro w hSw; (try dsimp only at hSw); go_simp <;> with_reducible rfl)
      simp only [Act.put, List.setIfInBounds_toArray, List.set_cons_zero, List.set_cons_succ]
      refine lateStep 2 (by kernel_rfl) rfl (by rfl) (fun K hK => ?_)
      go_simp
      refine (unhide QNM w4.drew (unhide HC4)).mono ?_
      rintro e w5 ⟨nz, hnz, rfl, hc5, hg5⟩
      go_wp2_with fail
      refine hK.out _ _ (unhide keepC w4.drew w5 hg5 hHeld hb4) (fun hHeld2 => ?_)
      clear hK K hHeld
      have hHeld := hHeld2; clear hHeld2
      try simp only [Act.put, List.setIfInBounds_toArray, List.set_cons_zero, List.set_cons_succ]
      have hz5 : w4.heap.size ≤ w5.heap.size := hg5.size
      refine lateStep 8 (by kernel_rfl) rfl (by rfl) (fun K hK => ?_)
      go_simp
      refine (unhide QK w5 hc5).mono ?_
      rintro e w6 ⟨kp, hkp, rfl, hc6, hg6⟩
      go_wp2_with fail
      refine hK.out _ _ (unhide keepC w5 w6 hg6 hHeld (by omega)) (fun hHeld2 => ?_)
      clear hK K hHeld
      have hHeld := hHeld2; clear hHeld2
      try simp only [Act.put, List.setIfInBounds_toArray, List.set_cons_zero, List.set_cons_succ]
      have hz6 : w5.heap.size ≤ w6.heap.size := hg6.size
      refine lateTake 9 (some 29) ?_ rfl (by kernel_rfl) (by kernel_rfl) (by kernel_rfl) (by kernel_rfl) rfl (fun _ _ _ h => h) (by rfl) (by assumption) ?_ ?_
      rotate_left
      · (intro w hSw; (try dsimp only at hSw); go_simp <;> with_reducible rfl)
      simp only [Act.put, List.setIfInBounds_toArray, List.set_cons_zero, List.set_cons_succ]
      obtain ⟨cs5, hcs5⟩ := (unhide HC4).row
      obtain ⟨cs6, hcs6⟩ := hc5.row
      have HX6 := hide (row_grown (row_grown (w := w4.drew) (unhide HX2) hg5 (by omega)) hg6 (by omega))
      have HR6 := hide (row_grown (row_grown (w := w4.drew) (unhide HR2) hg5 (by omega)) hg6 (by omega))
      have HO6 := hide (own_grown (own_grown (w := w4.drew) (unhide HO2) hg5 hcs5 (by decide)) hg6 hcs6 (by decide))
      have HB6 := hide ((((unhide HB2).drew).grown hg5 (by have := (unhide HB2).size; show w.heap.size ≤ w4.heap.size; omega) (fun q hq => by cases hq; omega)).grown hg6 (by have := (unhide HB2).size; omega) (fun q hq => by cases hq; omega))
      have HC6 := hide hc6
      clear hg5 hg6 hcs5 hcs6 hc5 hc6
      refine lateStep 10 (by kernel_rfl) rfl (by rfl) (fun K hK => ?_)
      go_simp
      refine (unhide QP ⟨nz, tx, (kp : Int)⟩ w6 ov (unhide HO6)).mono ?_
      rintro e w7 ⟨v7, rfl, hown7, hb7⟩
      go_wp2_with fail
      refine hK.out _ _ (cell_on hb7 hHeld) (fun hHeld2 => ?_)
      clear hK K hHeld
      have hHeld := hHeld2; clear hHeld2
      try simp only [Act.put, List.setIfInBounds_toArray, List.set_cons_zero, List.set_cons_succ]
      have HX7 := hide (row_up (unhide HX6) hb7)
      have HR7 := hide (row_up (unhide HR6) hb7)
      have HB7 := hide ((unhide HB6).trans (hb7.mono (by have := (unhide HB6).size; omega)))
      have HC7 := hide ((unhide HC6).up hb7)
      obtain ⟨ya, yn, yc, hov⟩ := own_shape hown7
      subst hov
      have x7 := row_cell (unhide HX7)
      have xz7 := row_frozen (unhide HX7)
      have HO7 := hide (own_based (own_set (u := .slice ya yn yc) hown7 (unhide HX7) (by decide)) (show w.heap.size ≤ w6.heap.size by have := (unhide HB6).size; omega))
      clear hown7 hb7
      refine lateLast 11 (by decide) (by kernel_rfl) rfl (by rfl) (fun K hK => ?_)
      go_simp
      refine hK.out _ _ ?_
      clear hK K hHeld
      try simp only [Act.put, List.setIfInBounds_toArray, List.set_cons_zero, List.set_cons_succ]
      refine lateDone (by kernel_rfl) ?_ _
      have HXN := hide (set1 (.slice ya yn yc) (unhide HX7))
      have HRN := hide (row_set (u := .slice ya yn yc) (unhide HR7) (show w.heap.size ≠ bd by omega))
      have HCN := hide ((unhide HC7).set (u := .slice ya yn yc) (unhide HX7) (by omega))
      have HBN := hide ((unhide HB7).setCell (p := ⟨bd, 0, none⟩) (by show w.heap.size ≤ bd; omega) (.slice ya yn yc))
      have hpl := putL_len_le l ⟨nz, tx, (kp : Int)⟩
      have HDN := hide ((unhide hHD).put (f := ⟨nz, tx, (kp : Int)⟩) (fileB_mk.2 ⟨hnz, by omega, by omega, by omega⟩) (by omega))
      go_wp2
      go_roundw
      case rel => exact ⟨k + 1, _, _, by omega, by go_num, by omega, unhide HDN, unhide HXN, unhide HO7, unhide HCN, unhide HRN, unhide HBN⟩
      case measure => simp [intOf]; omega
    · have hltI : ¬ (k : Int) < (x : Int) := by omega
      have hltB : decide ((k : Int) < (x : Int)) = false := by simpa using hltI
      have bx2 := row_cell (unhide HX2)
      have r0 := row_cell (unhide HR2)
      have z0 := row_frozen (unhide HR2)
      obtain ⟨ya, yn, yc, hov⟩ := own_shape (unhide HO2)
      subst hov
      have HRR := hide (set1 (.slice ya yn yc) (unhide HR2))
      have HOE := hide (own_set (u := .slice ya yn yc) (unhide HO2) (unhide HR2) (by decide))
      have HBE := hide ((unhide HB2).setCell (p := ⟨w.heap.size, 0, none⟩) (by show w.heap.size ≤ w.heap.size; omega) (.slice ya yn yc))
      go_wp2
      refine bodyPost_ret (results_cell_row rfl _ _ w.heap.size 26 _ (0, 0) _ rfl (unhide HRR) Try.underlying26 rfl (by kernel_rfl)) rfl ?_
      exact ⟨.slice ya yn yc, l, rfl, unhide hHD, unhide HOE, unhide HBE⟩
end Go.Proofs.Ytipmbfjcgmchkaa
