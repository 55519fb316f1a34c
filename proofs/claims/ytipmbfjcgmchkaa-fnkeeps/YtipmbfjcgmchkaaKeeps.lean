/- The law of what is kept: its walk. -/
import Derived.Test.YtipmbfjcgmchkaaKeepsParts
import Derived.Test.YtipmbfjcgmchkaaKept
import Derived.Test.YtipmbfjcgmchkaaLose
namespace Go.Proofs.Ytipmbfjcgmchkaa
open Go.RowKit
open Plain
set_option linter.unusedVariables false
set_option linter.unusedSimpArgs false

theorem bigK_any (len cap : Nat) (a : Option Addr) (w : World) (hl : len ≤ 9223372036854775807) :
    Calls Try.prog 9 #[.slice a len cap] w fun e w' => e = .returned (.bool (decide ((1048576 : Int) < len))) ∧ w' = w := by
  go_enter Try.func9, Try.ntmps9
  go_wp2
  go_ret
  exact ⟨rfl, rfl⟩
theorem right_small {l : List Fl} (h : DiskR l) : SmallF 1048576 l := by
  refine ⟨by have := h.1; omega, fun f hf => ?_⟩
  obtain ⟨p1, p2, _, _⟩ := fileB_parts ((DiskR_iff.1 h).2.1 f hf)
  refine ⟨?_, by omega⟩
  simp [nameB] at p1; omega
theorem keeps_big (len cap : Nat) (a : Option Addr) (w : World) (h1 : 1048576 < len) (h2 : len ≤ 9223372036854775807) :
    Calls Try.prog 3 #[.slice a len cap] w fun e w' => e = .returned (.bool true) ∧ Below w.heap.size w w' := by
  have q0 := bigK_any len cap a w h2
  have hd : decide ((1048576 : Int) < (len : Int)) = true := by simp; omega
  rw [hd] at q0
  have Q := hide q0
  clear q0 hd h1 h2
  go_enter Try.func3, Try.ntmps3
  go_wp2_with (go_at_call 9; refine (unhide Q).mono ?_; rintro e w0 ⟨rfl, hw⟩; subst w0)
  go_ret
  exact ⟨rfl, Below.refl _ _⟩

set_option maxHeartbeats 8000000 in
set_option maxRecDepth 100000 in
theorem keeps_any (len cap : Nat) (a : Option Addr) (w : World) (ha : Arg w.heap.size w a len) :
    Calls Try.prog 3 #[.slice a len cap] w fun e w' => e = .returned (.bool true) ∧ Below w.heap.size w w' := by
  have hl := ha.1
  have q0 := bigK_any len cap a w (by omega)
  have hd : decide ((1048576 : Int) < (len : Int)) = false := by simp; omega
  rw [hd] at q0
  have Q := hide q0
  have HA := hide ha
  clear q0 hd ha
  go_enter Try.func3, Try.ntmps3
  go_wp2_with fail
  refine (unhide Q).mono ?_
  rintro e w0 ⟨rfl, hw⟩
  subst w0
  go_wp2_with fail
  refine (DrawRightDisk_any w.heap.size len cap a w (unhide HA) (Nat.le_refl _)).mono ?_
  rintro e w1 ⟨v1, l, rfl, hD, own1, hb1⟩
  have HD := hide hD
  have BB := hide hb1
  have y_w1 : w.heap.size ≤ w1.heap.size := hb1.size
  clear hb1 hD
  have O1 := hide own1
  have RO1 := hide (World.ownsRow.lt (unhide O1))
  clear own1
  obtain ⟨xa1, xn1, xc1, hv1⟩ := own_shape (unhide O1)
  subst hv1
  go_wp2_with fail
  have hx : (w1.alloc (.cells #[.slice xa1 xn1 xc1] 26)).heap[w1.heap.size]? = some (.cells #[.slice xa1 xn1 xc1] 26 (0, 0)) := heap_alloc_new _ _
  have hbx := (Below.refl w1.heap.size w1).alloc (Nat.le_refl _) (.cells #[.slice xa1 xn1 xc1] 26)
  have hzx : (w1.alloc (.cells #[.slice xa1 xn1 xc1] 26)).heap.size = w1.heap.size + 1 := by simp
  obtain ⟨w2, hWx⟩ : ∃ W, W = w1.alloc (.cells #[.slice xa1 xn1 xc1] 26) := ⟨_, rfl⟩
  rw [← hWx] at hx hbx hzx ⊢
  clear hWx
  replace O1 := hide (own_stays (w := w1) (unhide O1) hbx)
  have z_w2 : w1.heap.size ≤ w2.heap.size := hbx.size
  replace BB := hide ((unhide BB).trans (hbx.mono (by show w.heap.size ≤ w1.heap.size; omega)))
  clear hbx
  have y_w2 : w.heap.size ≤ w2.heap.size := by omega
  have zz_w2 : w1.heap.size < w2.heap.size := by omega
  clear hzx
  have X1 := hide hx
  clear hx
  have hsub : xn1 = l.length := by obtain ⟨_, _, h, _⟩ := OwnF.shape (unhide O1); cases h; rfl
  subst hsub
  refine (DrawPlaces_int w.heap.size len cap a w2 ((unhide HA).below (unhide BB)) (by omega)).mono ?_
  rintro e w3 ⟨v3, l3, hl3, hall3, rfl, own3, hb3⟩
  replace X1 := hide (row_up (w := w2) (unhide X1) hb3)
  replace O1 := hide (own_stays (w := w2) (unhide O1) hb3)
  have z_w3 : w2.heap.size ≤ w3.heap.size := hb3.size
  replace BB := hide ((unhide BB).trans (hb3.mono (by show w.heap.size ≤ w2.heap.size; omega)))
  clear hb3
  have y_w3 : w.heap.size ≤ w3.heap.size := by omega
  have O3 := hide own3
  have RO3 := hide (World.ownsRow.lt (unhide O3))
  clear own3
  go_wp2_with fail
  refine (lefts_any l3 v3 _ w3 hl3 hall3 (unhide O3)).mono ?_
  rintro e w4 ⟨v4, l4, hl4, rfl, own4, hb4⟩
  replace X1 := hide (row_up (w := w3) (unhide X1) hb4)
  replace O1 := hide (own_stays (w := w3) (unhide O1) hb4)
  replace O3 := hide (own_stays (w := w3) (unhide O3) hb4)
  have z_w4 : w3.heap.size ≤ w4.heap.size := hb4.size
  replace BB := hide ((unhide BB).trans (hb4.mono (by show w.heap.size ≤ w3.heap.size; omega)))
  clear hb4
  have y_w4 : w.heap.size ≤ w4.heap.size := by omega
  clear O3
  have O4 := hide own4
  have RO4 := hide (World.ownsRow.lt (unhide O4))
  clear own4
  clear hl3 hall3
  have HSM := hide (right_small (unhide HD))
  have hl0 : l.length ≤ 30 := (unhide HD).1
  have QL := hide (fun v u B B2 wx h h2 => impl_LoseDisk_any l l4 v u B B2 wx (unhide HSM) h (by omega) h2)
  rw [lostL_is l4 (unhide HD), diskB_yes (unhide HD)] at QL
  have HDE := hide (loseL_right l4 (unhide HD))
  have hel : (loseL l l4).length = l.length := loseL_length l l4
  have HEG := hide (fun (k : Nat) (f : Fl) (h : l[k]? = some f) => (show ∃ g, (loseL l l4)[k]? = some g ∧ g.name = f.name ∧ begB g.text f.text ∧ begB (f.text.extract 0 f.kept.toNat) g.text from by
    obtain ⟨p3, p4⟩ := (unhide HD).kept h
    exact ⟨_, loseL_get h, rfl, beg_lost p3 p4⟩))
  have HAG := hide (loseL_again (left := l4) (more := []) (unhide HD))
  have HKB := hide (show keptB (loseL l l4) = true from keptB_yes ⟨unhide HDE, loseL_kept (unhide HD)⟩)
  generalize loseL l l4 = ee at QL HDE hel HEG HAG HKB
  clear hl4
  have q_X1 := row_cell (unhide X1)
  go_wp2_with fail
  clear q_X1
  refine (unhide QL _ v4 _ _ w4 (unhide O1) (unhide O4)).mono ?_
  rintro e w5 ⟨v5, rfl, own5, hb5⟩
  replace X1 := hide (row_up (w := w4) (unhide X1) hb5)
  replace O1 := hide (own_stays (w := w4) (unhide O1) hb5)
  replace O4 := hide (own_stays (w := w4) (unhide O4) hb5)
  have z_w5 : w4.heap.size ≤ w5.heap.size := hb5.size
  replace BB := hide ((unhide BB).trans (hb5.mono (by show w.heap.size ≤ w4.heap.size; omega)))
  clear hb5
  have y_w5 : w.heap.size ≤ w5.heap.size := by omega
  clear O4
  have O5 := hide own5
  have RO5 := hide (World.ownsRow.lt (unhide O5))
  clear own5
  have HSE := hide (right_small (unhide HDE))
  have QE := hide (fun v u B B2 wx h h2 => impl_LoseDisk_any ee [] v u B B2 wx (unhide HSE) h (by simp) h2)
  rw [lostL_is [] (unhide HDE), diskB_yes (unhide HDE), unhide HAG] at QE
  obtain ⟨xa5, xc5, hv5, hj5⟩ := OwnF.shape (unhide O5)
  clear hj5
  rw [hel] at hv5
  subst hv5
  have q_X1 := row_cell (unhide X1)
  have qa_X1 := fun o => cell_on ((Below.refl w5.heap.size w5).alloc (Nat.le_refl _) o) q_X1
  go_wp2_with fail
  clear q_X1 qa_X1
  have hbx := ((Below.refl w5.heap.size w5).alloc (Nat.le_refl _) (.cells #[.slice xa5 l.length xc5] 26)).alloc (by simp) (.cells #[] 3)
  have hx5 : ((w5.alloc (.cells #[.slice xa5 l.length xc5] 26)).alloc (.cells #[] 3)).heap[w5.heap.size]? = some (.cells #[.slice xa5 l.length xc5] 26 (0, 0)) := by rw [Below.heap_alloc _ _ _ (by simp)]; exact heap_alloc_new _ _
  have hrow : ((w5.alloc (.cells #[.slice xa5 l.length xc5] 26)).alloc (.cells #[] 3)).heap[w5.heap.size + 1]? = some (.cells #[] 3 (0, 0)) := heap_alloc2_new _ _ _
  have hz7 : w5.heap.size + 1 < ((w5.alloc (.cells #[.slice xa5 l.length xc5] 26)).alloc (.cells #[] 3)).heap.size := by simp
  generalize (w5.alloc (.cells #[.slice xa5 l.length xc5] 26)).alloc (.cells #[] 3) = w7 at *
  replace X1 := hide (row_up (w := w5) (unhide X1) hbx)
  replace O1 := hide (own_stays (w := w5) (unhide O1) hbx)
  replace O5 := hide (own_stays (w := w5) (unhide O5) hbx)
  have z_w7 : w5.heap.size ≤ w7.heap.size := hbx.size
  replace BB := hide ((unhide BB).trans (hbx.mono (by show w.heap.size ≤ w5.heap.size; omega)))
  clear hbx
  have y_w7 : w.heap.size ≤ w7.heap.size := by omega
  have X5 := hide hx5
  clear hx5
  have own7 : OwnI w5.heap.size w7 (.slice (some ⟨w5.heap.size + 1, 0, none⟩) 0 0) [] := ⟨rfl, .inr ⟨_, 0, #[], rfl, by omega, hrow, Nat.le_refl _, Nat.zero_le _, rfl, rfl⟩⟩
  clear hrow
  refine (unhide QE _ _ _ _ w7 (unhide O5) own7).mono ?_
  rintro e w8 ⟨v8, rfl, own8, hb8⟩
  clear own7
  replace X1 := hide (row_up (w := w7) (unhide X1) hb8)
  replace X5 := hide (row_up (w := w7) (unhide X5) hb8)
  replace O1 := hide (own_stays (w := w7) (unhide O1) hb8)
  replace O5 := hide (own_stays (w := w7) (unhide O5) hb8)
  have z_w8 : w7.heap.size ≤ w8.heap.size := hb8.size
  replace BB := hide ((unhide BB).trans (hb8.mono (by show w.heap.size ≤ w7.heap.size; omega)))
  clear hb8
  have y_w8 : w.heap.size ≤ w8.heap.size := by omega
  have O8 := hide own8
  have RO8 := hide (World.ownsRow.lt (unhide O8))
  clear own8
  obtain ⟨xa8, xc8, hv8, hj8⟩ := OwnF.shape (unhide O8)
  clear hj8
  rw [hel] at hv8
  subst hv8
  have q_X5 := row_cell (unhide X5)
  have qa_X5 := fun o => cell_on ((Below.refl w8.heap.size w8).alloc (Nat.le_refl _) o) q_X5
  have q_X1 := row_cell (unhide X1)
  have qa_X1 := fun o => cell_on ((Below.refl w8.heap.size w8).alloc (Nat.le_refl _) o) q_X1
  go_wp2_with fail
  clear q_X5 qa_X5 q_X1 qa_X1
  have hx : (w8.alloc (.cells #[.slice xa8 l.length xc8] 26)).heap[w8.heap.size]? = some (.cells #[.slice xa8 l.length xc8] 26 (0, 0)) := heap_alloc_new _ _
  have hbx := (Below.refl w8.heap.size w8).alloc (Nat.le_refl _) (.cells #[.slice xa8 l.length xc8] 26)
  have hzx : (w8.alloc (.cells #[.slice xa8 l.length xc8] 26)).heap.size = w8.heap.size + 1 := by simp
  obtain ⟨w9, hWx⟩ : ∃ W, W = w8.alloc (.cells #[.slice xa8 l.length xc8] 26) := ⟨_, rfl⟩
  rw [← hWx] at hx hbx hzx ⊢
  clear hWx
  replace X1 := hide (row_up (w := w8) (unhide X1) hbx)
  replace X5 := hide (row_up (w := w8) (unhide X5) hbx)
  replace O1 := hide (own_stays (w := w8) (unhide O1) hbx)
  replace O5 := hide (own_stays (w := w8) (unhide O5) hbx)
  replace O8 := hide (own_stays (w := w8) (unhide O8) hbx)
  have z_w9 : w8.heap.size ≤ w9.heap.size := hbx.size
  replace BB := hide ((unhide BB).trans (hbx.mono (by show w.heap.size ≤ w8.heap.size; omega)))
  clear hbx
  have y_w9 : w.heap.size ≤ w9.heap.size := by omega
  have zz_w9 : w8.heap.size < w9.heap.size := by omega
  clear hzx
  have X8 := hide hx
  clear hx
  refine (sameDisk_same ee _ _ _ _ w9 (by rw [hel]; omega) (unhide O5) (unhide O8)).mono ?_
  rintro e w10 ⟨rfl, hb10⟩
  replace X1 := hide (row_up (w := w9) (unhide X1) hb10)
  replace X5 := hide (row_up (w := w9) (unhide X5) hb10)
  replace X8 := hide (row_up (w := w9) (unhide X8) hb10)
  replace O1 := hide (own_stays (w := w9) (unhide O1) hb10)
  replace O5 := hide (own_stays (w := w9) (unhide O5) hb10)
  replace O8 := hide (own_stays (w := w9) (unhide O8) hb10)
  have z_w10 : w9.heap.size ≤ w10.heap.size := hb10.size
  replace BB := hide ((unhide BB).trans (hb10.mono (by show w.heap.size ≤ w9.heap.size; omega)))
  clear hb10
  have y_w10 : w.heap.size ≤ w10.heap.size := by omega
  clear O8 X8
  have QAK := hide (fun v B wx h => impl_AllKept_any ee v B wx (unhide HSE) h)
  rw [unhide HKB] at QAK
  have q_X5 := row_cell (unhide X5)
  go_wp2_with fail
  clear q_X5
  refine (unhide QAK _ _ w10 (unhide O5)).mono ?_
  rintro e w11 ⟨rfl, hb11⟩
  replace X1 := hide (row_up (w := w10) (unhide X1) hb11)
  replace X5 := hide (row_up (w := w10) (unhide X5) hb11)
  replace O1 := hide (own_stays (w := w10) (unhide O1) hb11)
  replace O5 := hide (own_stays (w := w10) (unhide O5) hb11)
  have z_w11 : w10.heap.size ≤ w11.heap.size := hb11.size
  replace BB := hide ((unhide BB).trans (hb11.mono (by show w.heap.size ≤ w10.heap.size; omega)))
  clear hb11
  have y_w11 : w.heap.size ≤ w11.heap.size := by omega
  have QDK := hide (fun v B wx h => impl_DiskOk_any l v B wx (unhide HSM) h)
  rw [diskB_yes (unhide HD)] at QDK
  have q_X1 := row_cell (unhide X1)
  go_wp2_with fail
  clear q_X1
  refine (unhide QDK _ _ w11 (unhide O1)).mono ?_
  rintro e w12 ⟨rfl, hb12⟩
  replace X1 := hide (row_up (w := w11) (unhide X1) hb12)
  replace X5 := hide (row_up (w := w11) (unhide X5) hb12)
  replace O1 := hide (own_stays (w := w11) (unhide O1) hb12)
  replace O5 := hide (own_stays (w := w11) (unhide O5) hb12)
  have z_w12 : w11.heap.size ≤ w12.heap.size := hb12.size
  replace BB := hide ((unhide BB).trans (hb12.mono (by show w.heap.size ≤ w11.heap.size; omega)))
  clear hb12
  have y_w12 : w.heap.size ≤ w12.heap.size := by omega
  obtain ⟨_, _, hs1, hc1⟩ := OwnF.shape (unhide O1)
  cases hs1
  have C1 := hide hc1
  obtain ⟨_, _, hs5, hc5⟩ := OwnF.shape (unhide O5)
  rw [hel] at hs5
  cases hs5
  have C5 := hide hc5
  clear hc1 hc5
  have x1 := row_cell (unhide X1)
  have x5 := row_cell (unhide X5)
  have lt1 := row_lt (unhide X1)
  have lt5 := row_lt (unhide X5)
  have hel2 := hide hel
  clear hel
  clear QAK QDK QE QL HSE HSM HKB HAG HDE
  go_wp2
  go_loopw [9] (fun i wr => ∃ k : Nat, k ≤ l.length ∧ i = .int .i64 k ∧ Below w12.heap.size w12 wr) (fun i _ => l.length - (intOf i).toNat)
  case atStart => exact ⟨0, Nat.zero_le _, rfl, Below.refl _ _⟩
  case round =>
    obtain ⟨k, hk, rfl, hbel⟩ := hrel
    have r1 := (hbel.cell (p := ⟨w1.heap.size, 0, none⟩) lt1).trans x1
    have r5 := (hbel.cell (p := ⟨w5.heap.size, 0, none⟩) lt5).trans x5
    have hszr : w12.heap.size ≤ wr.heap.size := hbel.size
    by_cases hlt : k < l.length
    · have hgk : l[k]? = some l[k] := List.getElem?_eq_getElem hlt
      obtain ⟨g1, hga1, hgl1, c0, c1, c2⟩ := unhide C1 k l[k] hgk
      obtain ⟨f2, hf2, hnm, hbg1, hbg2⟩ := unhide HEG k l[k] hgk
      obtain ⟨g5, hga5, hgl5, d0, d1, d2⟩ := unhide C5 k f2 hf2
      rw [← hbel.cell (p := ⟨g1, _, none⟩) hgl1] at c0 c1 c2
      rw [← hbel.cell (p := ⟨g5, _, none⟩) hgl5] at d0 d1 d2
      subst hga1 hga5
      obtain ⟨q1, q2, q3, q4⟩ := fileB_parts ((unhide HD).2 k _ hgk).1
      have hsz2 : f2.text.size ≤ l[k].text.size := hbg1.1
      have hik : (0 : Int) ≤ (k : Int) := by omega
      have hil : (k : Int) < (l.length : Int) := by omega
      generalize l[k] = f1 at *
      rw [hnm] at d0
      obtain ⟨fn, ft, fk⟩ := f1
      obtain ⟨gn, gt, gk⟩ := f2
      simp only at c0 c1 c2 d0 d1 d2 q1 q2 q3 q4 hbg1 hbg2 hsz2
      have hex : (ft.extract 0 fk.toNat).size ≤ 1048576 := by rw [ByteArray.size_extract]; omega
      have B1 := hide (fun wx => begins_any gt ft wx (by omega) (by omega) hbg1)
      have B2 := hide (fun wx => begins_any (ft.extract 0 fk.toNat) gt wx hex (by omega) hbg2)
      have hw1 : w1.heap.size < wr.heap.size := by omega
      have hw5 : w5.heap.size < wr.heap.size := by omega
      have hg1r : g1 < wr.heap.size := by omega
      have hg5r : g5 < wr.heap.size := by omega
      have r5a := fun o => cell_on ((Below.refl wr.heap.size wr).alloc (Nat.le_refl _) o) r5
      have d0a := fun o => cell_on ((Below.refl wr.heap.size wr).alloc (Nat.le_refl _) o) d0
      have d1a := fun o => cell_on ((Below.refl wr.heap.size wr).alloc (Nat.le_refl _) o) d1
      have d2a := fun o => cell_on ((Below.refl wr.heap.size wr).alloc (Nat.le_refl _) o) d2
      clear hbg1 hbg2 hf2 hgk hnm hex
      go_wp2
      clear r5a d0a d1a d2a c0 c1 c2 d0 d1 d2 r1 r5
      have hbW := (hbel.alloc hszr (.cells #[.string fn, .string ft, .int .i64 fk] 36)).alloc (by simp; omega) (.cells #[.string fn, .string gt, .int .i64 gk] 36)
      have s0 : ((wr.alloc (.cells #[.string fn, .string ft, .int .i64 fk] 36)).alloc (.cells #[.string fn, .string gt, .int .i64 gk] 36)).cell? ⟨wr.heap.size, 0, none⟩ = some (.string fn) := by go_simp
      have s1 : ((wr.alloc (.cells #[.string fn, .string ft, .int .i64 fk] 36)).alloc (.cells #[.string fn, .string gt, .int .i64 gk] 36)).cell? ⟨wr.heap.size, 1, none⟩ = some (.string ft) := by go_simp
      have s2 : ((wr.alloc (.cells #[.string fn, .string ft, .int .i64 fk] 36)).alloc (.cells #[.string fn, .string gt, .int .i64 gk] 36)).cell? ⟨wr.heap.size, 2, none⟩ = some (.int .i64 fk) := by go_simp
      have s3 : ((wr.alloc (.cells #[.string fn, .string ft, .int .i64 fk] 36)).alloc (.cells #[.string fn, .string gt, .int .i64 gk] 36)).cell? ⟨wr.heap.size + 1, 0, none⟩ = some (.string fn) := by go_simp
      have s4 : ((wr.alloc (.cells #[.string fn, .string ft, .int .i64 fk] 36)).alloc (.cells #[.string fn, .string gt, .int .i64 gk] 36)).cell? ⟨wr.heap.size + 1, 1, none⟩ = some (.string gt) := by go_simp
      have s5 : ((wr.alloc (.cells #[.string fn, .string ft, .int .i64 fk] 36)).alloc (.cells #[.string fn, .string gt, .int .i64 gk] 36)).cell? ⟨wr.heap.size + 1, 2, none⟩ = some (.int .i64 gk) := by go_simp
      generalize (wr.alloc (.cells #[.string fn, .string ft, .int .i64 fk] 36)).alloc (.cells #[.string fn, .string gt, .int .i64 gk] 36) = W3 at *
      refine wp_region_held_drew (S := fun w' => w'.cell? ⟨wr.heap.size, 0, none⟩ = some (.string fn) ∧ w'.cell? ⟨wr.heap.size, 1, none⟩ = some (.string ft) ∧ w'.cell? ⟨wr.heap.size, 2, none⟩ = some (.int .i64 fk) ∧ w'.cell? ⟨wr.heap.size + 1, 0, none⟩ = some (.string fn) ∧ w'.cell? ⟨wr.heap.size + 1, 1, none⟩ = some (.string gt) ∧ w'.cell? ⟨wr.heap.size + 1, 2, none⟩ = some (.int .i64 gk)) (by kernel_rfl) (⟨s0, s1, s2, s3, s4, s5⟩) (fun hHeld => ?_)
      refine takeVal 0 (some 79) ?_ rfl (by kernel_rfl) (by kernel_rfl) (by kernel_rfl) rfl (fun _ _ _ h => h) (by rfl) (by assumption) ?_ ?_
      rotate_left
      · (intro w hSw; (try dsimp only at hSw); go_simp <;> with_reducible rfl)
      simp only [Act.put, List.setIfInBounds_toArray, List.set_cons_zero, List.set_cons_succ]
      refine takeVal 1 (some 80) ?_ rfl (by kernel_rfl) (by kernel_rfl) (by kernel_rfl) rfl (fun _ _ _ h => h) (by rfl) (by assumption) ?_ ?_
      rotate_left
      · (intro w hSw; (try dsimp only at hSw); go_simp <;> with_reducible rfl)
      simp only [Act.put, List.setIfInBounds_toArray, List.set_cons_zero, List.set_cons_succ]
      refine takeVal 2 (some 81) ?_ rfl (by kernel_rfl) (by kernel_rfl) (by kernel_rfl) rfl (fun _ _ _ h => h) (by rfl) (by assumption) ?_ ?_
      rotate_left
      · (intro w hSw; (try dsimp only at hSw); go_simp <;> with_reducible rfl)
      simp only [Act.put, List.setIfInBounds_toArray, List.set_cons_zero, List.set_cons_succ]
      refine takeVal 3 (some 82) ?_ rfl (by kernel_rfl) (by kernel_rfl) (by kernel_rfl) rfl (fun _ _ _ h => h) (by rfl) (by assumption) ?_ ?_
      rotate_left
      · (intro w hSw; (try dsimp only at hSw); go_simp <;> with_reducible rfl)
      simp only [Act.put, List.setIfInBounds_toArray, List.set_cons_zero, List.set_cons_succ]
      refine takeVal 4 (some 83) ?_ rfl (by kernel_rfl) (by kernel_rfl) (by kernel_rfl) rfl (fun _ _ _ h => h) (by rfl) (by assumption) ?_ ?_
      rotate_left
      · (intro w hSw; (try dsimp only at hSw); go_simp <;> with_reducible rfl)
      simp only [Act.put, List.setIfInBounds_toArray, List.set_cons_zero, List.set_cons_succ]
      refine takeVal 5 (some 84) ?_ rfl (by kernel_rfl) (by kernel_rfl) (by kernel_rfl) rfl (fun _ _ _ h => h) (by rfl) (by assumption) ?_ ?_
      rotate_left
      · (intro w hSw; (try dsimp only at hSw); go_simp <;> with_reducible rfl)
      simp only [Act.put, List.setIfInBounds_toArray, List.set_cons_zero, List.set_cons_succ]
      refine takeVal 6 (some 85) ?_ rfl (by kernel_rfl) (by kernel_rfl) (by kernel_rfl) rfl (fun _ _ _ h => h) (by rfl) (by assumption) ?_ ?_
      rotate_left
      · (intro w hSw; (try dsimp only at hSw); go_simp <;> with_reducible rfl)
      simp only [Act.put, List.setIfInBounds_toArray, List.set_cons_zero, List.set_cons_succ]
      refine takeVal 7 (some 86) ?_ rfl (by kernel_rfl) (by kernel_rfl) (by kernel_rfl) rfl (fun _ _ _ h => h) (by rfl) (by assumption) ?_ ?_
      rotate_left
      · (intro w hSw; (try dsimp only at hSw); go_simp <;> with_reducible rfl)
      simp only [Act.put, List.setIfInBounds_toArray, List.set_cons_zero, List.set_cons_succ]
      refine takeVal 8 (some 87) ?_ rfl (by kernel_rfl) (by kernel_rfl) (by kernel_rfl) rfl (fun _ _ _ h => h) (by rfl) (by assumption) ?_ ?_
      rotate_left
      · (intro w hSw; (try dsimp only at hSw); go_simp <;> with_reducible rfl)
      simp only [Act.put, List.setIfInBounds_toArray, List.set_cons_zero, List.set_cons_succ]
      refine takeVal 9 (some 88) ?_ rfl (by kernel_rfl) (by kernel_rfl) (by kernel_rfl) rfl (fun _ _ _ h => h) (by rfl) (by assumption) ?_ ?_
      rotate_left
      · (intro w hSw; (try dsimp only at hSw); go_simp <;> with_reducible rfl)
      simp only [Act.put, List.setIfInBounds_toArray, List.set_cons_zero, List.set_cons_succ]
      refine wpAnyH_ready (rs := [10]) (by kernel_rfl) (by simp) ?_
      refine AllReadyH.cons rfl (fun K hK => ?_) AllReadyH.nil
      go_simp
      refine (unhide B1 W3.drew).mono ?_
      rintro e wb ⟨rfl, hwb⟩
      go_wp2_with fail
      refine hK.out _ _ (hHeld) (fun hHeld2 => ?_)
      clear hK K hHeld
      have hHeld := hHeld2; clear hHeld2
      try simp only [Act.put, List.setIfInBounds_toArray, List.set_cons_zero, List.set_cons_succ]
      subst wb
      refine takeVal 11 (some 90) ?_ rfl (by kernel_rfl) (by kernel_rfl) (by kernel_rfl) rfl (fun _ _ _ h => h) (by rfl) (by assumption) ?_ ?_
      rotate_left
      · (intro w hSw; (try dsimp only at hSw); go_simp <;> with_reducible rfl)
      simp only [Act.put, List.setIfInBounds_toArray, List.set_cons_zero, List.set_cons_succ]
      refine takeVal 12 (some 91) ?_ rfl (by kernel_rfl) (by kernel_rfl) (by kernel_rfl) rfl (fun _ _ _ h => h) (by rfl) (by assumption) ?_ ?_
      rotate_left
      · (intro w hSw; (try dsimp only at hSw); go_simp <;> with_reducible rfl)
      simp only [Act.put, List.setIfInBounds_toArray, List.set_cons_zero, List.set_cons_succ]
      refine takeVal 13 (some 92) ?_ rfl (by kernel_rfl) (by kernel_rfl) (by kernel_rfl) rfl (fun _ _ _ h => h) (by rfl) (by assumption) ?_ ?_
      rotate_left
      · (intro w hSw; (try dsimp only at hSw); go_simp <;> with_reducible rfl)
      simp only [Act.put, List.setIfInBounds_toArray, List.set_cons_zero, List.set_cons_succ]
      refine takeVal 14 (some 93) ?_ rfl (by kernel_rfl) (by kernel_rfl) (by kernel_rfl) rfl (fun _ _ _ h => h) (by rfl) (by assumption) ?_ ?_
      rotate_left
      · (intro w hSw; (try dsimp only at hSw); go_simp <;> with_reducible rfl)
      simp only [Act.put, List.setIfInBounds_toArray, List.set_cons_zero, List.set_cons_succ]
      refine takeVal 15 (some 94) ?_ rfl (by kernel_rfl) (by kernel_rfl) (by kernel_rfl) rfl (fun _ _ _ h => h) (by rfl) (by assumption) ?_ ?_
      rotate_left
      · (intro w hSw; (try dsimp only at hSw); go_simp <;> with_reducible rfl)
      simp only [Act.put, List.setIfInBounds_toArray, List.set_cons_zero, List.set_cons_succ]
      refine takeVal 16 (some 95) ?_ rfl (by kernel_rfl) (by kernel_rfl) (by kernel_rfl) rfl (fun _ _ _ h => h) (by rfl) (by assumption) ?_ ?_
      rotate_left
      · (intro w hSw; (try dsimp only at hSw); go_simp <;> with_reducible rfl)
      simp only [Act.put, List.setIfInBounds_toArray, List.set_cons_zero, List.set_cons_succ]
      refine takeVal 17 (some 96) ?_ rfl (by kernel_rfl) (by kernel_rfl) (by kernel_rfl) rfl (fun _ _ _ h => h) (by rfl) (by assumption) ?_ ?_
      rotate_left
      · (intro w hSw; (try dsimp only at hSw); go_simp <;> with_reducible rfl)
      simp only [Act.put, List.setIfInBounds_toArray, List.set_cons_zero, List.set_cons_succ]
      refine takeVal 18 (some 97) ?_ rfl (by kernel_rfl) (by kernel_rfl) (by kernel_rfl) rfl (fun _ _ _ h => h) (by rfl) (by assumption) ?_ ?_
      rotate_left
      · (intro w hSw; (try dsimp only at hSw); go_simp <;> with_reducible rfl)
      simp only [Act.put, List.setIfInBounds_toArray, List.set_cons_zero, List.set_cons_succ]
      refine takeVal 19 (some 98) ?_ rfl (by kernel_rfl) (by kernel_rfl) (by kernel_rfl) rfl (fun _ _ _ h => h) (by rfl) (by assumption) ?_ ?_
      rotate_left
      · (intro w hSw; (try dsimp only at hSw); go_simp <;> with_reducible rfl)
      simp only [Act.put, List.setIfInBounds_toArray, List.set_cons_zero, List.set_cons_succ]
      refine takeVal 20 (some 99) ?_ rfl (by kernel_rfl) (by kernel_rfl) (by kernel_rfl) rfl (fun _ _ _ h => h) (by rfl) (by assumption) ?_ ?_
      rotate_left
      · (intro w hSw; (try dsimp only at hSw); go_simp <;> with_reducible rfl)
      simp only [Act.put, List.setIfInBounds_toArray, List.set_cons_zero, List.set_cons_succ]
      refine wpAnyH_ready (rs := [21]) (by kernel_rfl) (by simp) ?_
      refine AllReadyH.cons rfl (fun K hK => ?_) AllReadyH.nil
      go_simp
      refine (unhide B2 W3.drew).mono ?_
      rintro e wb ⟨rfl, hwb⟩
      go_wp2_with fail
      refine hK.out _ _ (hHeld) (fun hHeld2 => ?_)
      clear hK K hHeld
      have hHeld := hHeld2; clear hHeld2
      try simp only [Act.put, List.setIfInBounds_toArray, List.set_cons_zero, List.set_cons_succ]
      subst wb
      refine takeVal 22 (some 101) ?_ rfl (by kernel_rfl) (by kernel_rfl) (by kernel_rfl) rfl (fun _ _ _ h => h) (by rfl) (by assumption) ?_ ?_
      rotate_left
      · (intro w hSw; (try dsimp only at hSw); go_simp <;> with_reducible rfl)
      simp only [Act.put, List.setIfInBounds_toArray, List.set_cons_zero, List.set_cons_succ]
      refine takeVal 23 (some 102) ?_ rfl (by kernel_rfl) (by kernel_rfl) (by kernel_rfl) rfl (fun _ _ _ h => h) (by rfl) (by assumption) ?_ ?_
      rotate_left
      · (intro w hSw; (try dsimp only at hSw); go_simp <;> with_reducible rfl)
      simp only [Act.put, List.setIfInBounds_toArray, List.set_cons_zero, List.set_cons_succ]
      refine wpAnyH_done (by kernel_rfl) ?_ _
      go_wp2
      go_roundw
      case rel => exact ⟨k + 1, by omega, by go_num, hbW.drew⟩
      case measure => simp [intOf]; omega
    · go_wp2
      go_ret
      exact ⟨rfl, (unhide BB).trans (hbel.mono (by omega))⟩
end Go.Proofs.Ytipmbfjcgmchkaa
