/- Marks in a row of files: what the laws' own helpers write and find. -/
import Derived.Test.YtipmbfjcgmchkaaFiles
import Derived.Test.YtipmbfjcgmchkaaMarks
import Derived.Test.YtipmbfjcgmchkaaRegion
namespace Go.Proofs.Ytipmbfjcgmchkaa
open Go.RowKit
open Plain
set_option linter.unusedVariables false

theorem OwnF.shape0 {B : Nat} {w : World} {v : Value} {l : List Fl} (h : OwnF B w v l) : ∃ a c, v = .slice a l.length c ∧ True := by
  unfold OwnF at h
  rcases h.2 with ⟨rfl, h0⟩ | ⟨g, c, cur, rfl, _⟩
  · exact ⟨none, 0, by rw [h0], trivial⟩
  · exact ⟨_, _, rfl, trivial⟩

theorem grown_then {w w1 w2 : World} {row : Option Nat} (h : w.grownBy w1 row) (hb : Below w1.heap.size w1 w2) : w.grownBy w2 row :=
  ⟨hb.os.trans h.os, hb.tape.trans h.tape, hb.output.trans h.output, Nat.le_trans h.size hb.size, fun k hk hne => (hb.block k (Nat.lt_of_lt_of_le hk h.size)).trans (h.block k hk hne)⟩
theorem grown_store {w w1 : World} {g j : Nat} (h : w.grownBy w1 (some g)) (u : Value) : w.grownBy (w1.setCell ⟨g, j, none⟩ u) (some g) :=
  ⟨h.os, h.tape, h.output, by simpa using h.size, fun k hk hne => (Below.heap_setCell _ _ _ k (fun e => hne (by rw [e]))).trans (h.block k hk hne)⟩
theorem grown_self (w : World) (row : Option Nat) : w.grownBy w row := ⟨rfl, rfl, rfl, Nat.le_refl _, fun _ _ _ => rfl⟩
theorem below_then_grown {w w1 w2 : World} {row : Option Nat} (hb : Below w.heap.size w w1) (h : w1.grownBy w2 row) : w.grownBy w2 row :=
  ⟨h.os.trans hb.os, h.tape.trans hb.tape, h.output.trans hb.output, Nat.le_trans hb.size h.size, fun k hk hne => (h.block k (Nat.lt_of_lt_of_le hk hb.size) hne).trans (hb.block k hk)⟩

def markF (k : Nat) : Fl := ⟨⟨(mkL k).toArray⟩, ⟨(mkL (k + 1)).toArray⟩, ((k + 2 : Nat) : Int)⟩
def marksF (k0 n : Nat) : List Fl := (List.range n).map fun i => markF (k0 + i * 3)
def markedF (k0 : Nat) (l : List Fl) (k : Nat) : List Fl := marksF k0 k ++ l.drop k
theorem marksF_length (k0 n : Nat) : (marksF k0 n).length = n := by simp [marksF]
theorem marksF_get {k0 n i : Nat} (h : i < n) : (marksF k0 n)[i]? = some (markF (k0 + i * 3)) := by simp [marksF, h]
theorem markedF_zero (k0 : Nat) (l : List Fl) : markedF k0 l 0 = l := by simp [markedF, marksF]
theorem markedF_all (k0 : Nat) (l : List Fl) : markedF k0 l l.length = marksF k0 l.length := by simp [markedF]
theorem markedF_length {k0 k : Nat} {l : List Fl} (h : k ≤ l.length) : (markedF k0 l k).length = l.length := by simp [markedF, marksF_length]; omega
theorem markedF_set {k0 k : Nat} {l : List Fl} (h : k < l.length) : (markedF k0 l k).set k (markF (k0 + k * 3)) = markedF k0 l (k + 1) := by
  unfold markedF
  rw [List.set_append_right _ _ (by rw [marksF_length]; omega), marksF_length, Nat.sub_self, List.drop_eq_getElem_cons h, List.set_cons_zero]
  simp [marksF, List.range_succ]

set_option maxHeartbeats 1000000 in
set_option maxRecDepth 100000 in
theorem markFileS_any (l : List Fl) (v : Value) (B k0 : Nat) (w : World) (hs : l.length ≤ 1048576) (hk0 : 1 ≤ k0) (hk1 : k0 ≤ 100000000) 
    (h : OwnF B w v l) :
    Calls Try.prog 64 #[v, .int .i64 k0] w fun e w' => e = .returned (.int .i64 ((k0 + l.length * 3 : Nat) : Int)) ∧ OwnF B w' v (marksF k0 l.length) ∧ w.grownBy w' v.ownBlock := by
  unfold OwnF at h ⊢
  rw [marksF_length]
  rcases h.2 with ⟨rfl, hz⟩ | ⟨g, cap, cur, rfl, hbg, hh, hrest⟩
  · have e : l = [] := List.eq_nil_of_length_eq_zero hz
    subst e
    go_enter Try.func64, Try.ntmps64
    go_wp2
    refine wp_loop_rounds 1 ?_
    rw [rounds_succ]
    go_wp2
    go_ret
    exact ⟨by simp, by simpa [marksF] using h, grown_self _ _⟩
  · clear hh hrest
    obtain ⟨n, hn⟩ : ∃ n, n = l.length := ⟨_, rfl⟩
    rw [← hn] at h hs ⊢
    have H0 := hide h
    have HN := hide hn
    clear h hn
    go_enter Try.func64, Try.ntmps64
    go_wp2
    go_loopw [1, 5] (fun m i wr => ∃ k K : Nat, k ≤ n ∧ K = k0 + k * 3 ∧ i = .int .i64 k ∧ m = .int .i64 (K : Int) ∧ wr.ownsRow B 36 3 (.slice (some ⟨g, 0, none⟩) n cap) n (fcs (markedF k0 l k)) ∧ w.grownBy wr (some g)) (fun _ i _ => n - (intOf i).toNat)
    case atStart => exact ⟨0, k0, Nat.zero_le _, by simp, rfl, rfl, by rw [markedF_zero]; exact unhide H0, grown_self _ _⟩
    case round =>
      obtain ⟨k, K, hk, hK, rfl, rfl, hown, hbel⟩ := hrel
      by_cases hlt : k < n
      · have hkl : k < l.length := by have := unhide HN; omega
        have hset := hide (markedF_set (k0 := k0) hkl)
        have hlen := hide (markedF_length (k0 := k0) (l := l) (k := k) (by omega))
        have M1 := hide (fun wx => markText_any (k0 + k * 3) wx (by omega) (by omega))
        have M2 := hide (fun wx => markText_any (k0 + k * 3 + 1) wx (by omega) (by omega))
        rw [← hK] at M1 M2 hset
        have hget : (markedF k0 l k)[k]? = some ((markedF k0 l k)[k]'(by rw [unhide hlen]; exact hkl)) := List.getElem?_eq_getElem _
        obtain ⟨d0, d1, d2⟩ := file_cells hown hget hlt
        generalize (markedF k0 l k)[k]'(by rw [unhide hlen]; exact hkl) = f' at hget d0 d1 d2
        have hgl : g < wr.heap.size := (hown.lt g rfl).2
        have hKb : K ≤ 200000000 := by omega
        have f0 := hown.frozenAt (k * 3)
        have f1 := hown.frozenAt (k * 3 + 1)
        have f2 := hown.frozenAt (k * 3 + 2)
        have HO := hide hown
        have HK := hide hK
        clear hown hget hK
        have D0 := hide d0; have D1 := hide d1; have D2 := hide d2; have F0 := hide f0; have F1 := hide f1; have F2 := hide f2
        clear d0 d1 d2 f0 f1 f2
        go_wp2_with fail
        refine (unhide M1 _).mono ?_
        rintro e w1 ⟨rfl, hb1⟩
        have c0 := (hb1.cell (p := ⟨g, k * 3, none⟩) hgl).trans (unhide D0)
        have z0 := (hb1.frozen (p := ⟨g, k * 3, none⟩) hgl).trans (unhide F0)
        have own1 := own_stays (unhide HO) hb1
        have st1 := own1.stored (k * 3) (.string ⟨(mkL K).toArray⟩)
        have S1 := hide st1.1
        have hB2 := grown_store (j := k * 3) (grown_then hbel hb1) (.string ⟨(mkL K).toArray⟩)
        clear own1 st1
        go_wp2_with fail
        have hgl2 : g < (w1.setCell ⟨g, k * 3, none⟩ (.string ⟨(mkL K).toArray⟩)).heap.size := ((unhide S1).lt g rfl).2
        have d1 : (w1.setCell ⟨g, k * 3, none⟩ (.string ⟨(mkL K).toArray⟩)).cell? ⟨g, k * 3 + 1, none⟩ = some (.string f'.text) := by
          rw [World.cell?_setCell_other _ _ _ _ (by simp)]; exact (hb1.cell (p := ⟨g, k * 3 + 1, none⟩) hgl).trans (unhide D1)
        have d2 : (w1.setCell ⟨g, k * 3, none⟩ (.string ⟨(mkL K).toArray⟩)).cell? ⟨g, k * 3 + 2, none⟩ = some (.int .i64 f'.kept) := by
          rw [World.cell?_setCell_other _ _ _ _ (by simp)]; exact (hb1.cell (p := ⟨g, k * 3 + 2, none⟩) hgl).trans (unhide D2)
        have z1 := (unhide S1).frozenAt (k * 3 + 1)
        have z2 := (unhide S1).frozenAt (k * 3 + 2)
        clear c0 z0
        obtain ⟨w2, hw2⟩ : ∃ w2, w2 = w1.setCell ⟨g, k * 3, none⟩ (.string ⟨(mkL K).toArray⟩) := ⟨_, rfl⟩
        rw [← hw2] at hgl2 d1 d2 z1 z2 S1 hB2 ⊢
        clear hw2
        refine (unhide M2 _).mono ?_
        rintro e w3 ⟨rfl, hb3⟩
        have e1 := (hb3.cell (p := ⟨g, k * 3 + 1, none⟩) hgl2).trans d1
        have e2 := (hb3.cell (p := ⟨g, k * 3 + 2, none⟩) hgl2).trans d2
        have y1 := (hb3.frozen (p := ⟨g, k * 3 + 1, none⟩) hgl2).trans z1
        have y2 := (hb3.frozen (p := ⟨g, k * 3 + 2, none⟩) hgl2).trans z2
        have own3 := own_stays (unhide S1) hb3
        have st3 := own3.stored (k * 3 + 1) (.string ⟨(mkL (K + 1)).toArray⟩)
        have st4 := st3.1.stored (k * 3 + 2) (.int .i64 ((K + 2 : Nat) : Int))
        have e3 : (((fcs (markedF k0 l k)).set (k * 3) (.string ⟨(mkL K).toArray⟩)).set (k * 3 + 1) (.string ⟨(mkL (K + 1)).toArray⟩)).set (k * 3 + 2) (.int .i64 ((K + 2 : Nat) : Int)) = fcs ((markedF k0 l k).set k (markF K)) :=
          fcs_set (markedF k0 l k) k (markF K) (by rw [unhide hlen]; exact hkl)
        rw [e3, unhide hset] at st4
        have S4 := hide st4.1
        have hB4 := hide (grown_store (j := k * 3 + 2) (grown_store (j := k * 3 + 1) (grown_then hB2 hb3) (.string ⟨(mkL (K + 1)).toArray⟩)) (.int .i64 ((K + 2 : Nat) : Int)))
        have hK2 : ((K + 2 : Nat) : Int) = (K : Int) + 1 + 1 := by omega
        rw [hK2] at S4 hB4
        clear own3 st3 st4 d1 d2 z1 z2 e3 hK2
        go_wp2
        go_roundw
        case rel => exact ⟨k + 1, K + 3, by omega, by have := unhide HK; omega, by go_num, by go_num, unhide S4, unhide hB4⟩
        case measure => simp [intOf]; omega
      · have e : k = n := by omega
        subst e
        have e2 : markedF k0 l k = marksF k0 k := by rw [unhide HN]; exact markedF_all k0 l
        rw [e2] at hown
        have HK := hide hK
        clear hK
        go_wp2
        go_ret
        exact ⟨by rw [← unhide HK]; rfl, hown, hbel⟩

set_option maxHeartbeats 1000000 in
set_option maxRecDepth 100000 in
theorem heldFileS_any (n : Nat) (v : Value) (B k0 : Nat) (w : World) (hs : n ≤ 1048576) (hk0 : 1 ≤ k0) (hk1 : k0 ≤ 100000000) (h : OwnF B w v (marksF k0 n)) :
    Calls Try.prog 65 #[v, .int .i64 k0] w fun e w' => e = .returned (.int .i64 ((k0 + n * 3 : Nat) : Int)) ∧ Below w.heap.size w w' := by
  unfold OwnF at h
  rw [marksF_length] at h
  rcases h.2 with ⟨rfl, hz⟩ | ⟨g, cap, cur, rfl, hbg, hh, hrest⟩
  · subst hz
    go_enter Try.func65, Try.ntmps65
    go_wp2
    refine wp_loop_rounds 1 ?_
    rw [rounds_succ]
    go_wp2
    go_ret
    exact ⟨by simp, Below.refl _ _⟩
  · have hgl : g < w.heap.size := (h.lt g rfl).2
    have C := hide (fun (k : Nat) (hk : k < n) => file_cells h (marksF_get (k0 := k0) hk) hk)
    clear hh hrest h
    go_enter Try.func65, Try.ntmps65
    go_wp2
    go_loopw [1, 5] (fun m i wr => ∃ k K : Nat, k ≤ n ∧ K = k0 + k * 3 ∧ i = .int .i64 k ∧ m = .int .i64 (K : Int) ∧ Below w.heap.size w wr) (fun _ i _ => n - (intOf i).toNat)
    case atStart => exact ⟨0, k0, Nat.zero_le _, by simp, rfl, rfl, Below.refl _ _⟩
    case round =>
      obtain ⟨k, K, hk, hK, rfl, rfl, hbel⟩ := hrel
      by_cases hlt : k < n
      · obtain ⟨c0, c1, c2⟩ := unhide C k hlt
        rw [← hK] at c0 c1 c2
        rw [← hbel.cell (p := ⟨g, _, none⟩) hgl] at c0 c1 c2
        unfold markF at c0 c1 c2
        simp only at c0 c1 c2
        have M1 := hide (fun wx => markText_any K wx (by omega) (by omega))
        have M2 := hide (fun wx => markText_any (K + 1) wx (by omega) (by omega))
        have hgl2 : g < wr.heap.size := by have := hbel.size; omega
        have hI1 : (0 : Int) ≤ (k : Int) := by omega
        have hI2 : (k : Int) < (n : Int) := by omega
        have hKb : K ≤ 200000000 := by omega
        have HK := hide hK
        clear hK
        go_wp2
        refine wp_region_held_drew (S := fun w' => w'.cell? ⟨g, k * 3, none⟩ = some (.string ⟨(mkL K).toArray⟩)) (by kernel_rfl) (c0) (fun hHeld => ?_)
        refine takeVal 0 (some 12) ?_ rfl (by kernel_rfl) (by kernel_rfl) (by kernel_rfl) rfl (fun _ _ _ h => h) (by rfl) (by assumption) ?_ ?_
        rotate_left
        · (intro w hSw; (try dsimp only at hSw); go_simp <;> with_reducible rfl)
        simp only [Act.put, List.setIfInBounds_toArray, List.set_cons_zero, List.set_cons_succ]
        refine takeVal 1 (some 13) ?_ rfl (by kernel_rfl) (by kernel_rfl) (by kernel_rfl) rfl (fun _ _ _ h => h) (by rfl) (by assumption) ?_ ?_
        rotate_left
        · (intro w hSw; (try dsimp only at hSw); go_simp <;> with_reducible rfl)
        simp only [Act.put, List.setIfInBounds_toArray, List.set_cons_zero, List.set_cons_succ]
        refine takeVal 2 (some 14) ?_ rfl (by kernel_rfl) (by kernel_rfl) (by kernel_rfl) rfl (fun _ _ _ h => h) (by rfl) (by assumption) ?_ ?_
        rotate_left
        · (intro w hSw; (try dsimp only at hSw); go_simp <;> with_reducible rfl)
        simp only [Act.put, List.setIfInBounds_toArray, List.set_cons_zero, List.set_cons_succ]
        refine takeVal 3 (some 15) ?_ rfl (by kernel_rfl) (by kernel_rfl) (by kernel_rfl) rfl (fun _ _ _ h => h) (by rfl) (by assumption) ?_ ?_
        rotate_left
        · (intro w hSw; (try dsimp only at hSw); go_simp <;> with_reducible rfl)
        simp only [Act.put, List.setIfInBounds_toArray, List.set_cons_zero, List.set_cons_succ]
        refine takeVal 4 (some 16) ?_ rfl (by kernel_rfl) (by kernel_rfl) (by kernel_rfl) rfl (fun _ _ _ h => h) (by rfl) (by assumption) ?_ ?_
        rotate_left
        · (intro w hSw; (try dsimp only at hSw); go_simp <;> with_reducible rfl)
        simp only [Act.put, List.setIfInBounds_toArray, List.set_cons_zero, List.set_cons_succ]
        refine takeVal 5 (some 17) ?_ rfl (by kernel_rfl) (by kernel_rfl) (by kernel_rfl) rfl (fun _ _ _ h => h) (by rfl) (by assumption) ?_ ?_
        rotate_left
        · (intro w hSw; (try dsimp only at hSw); go_simp <;> with_reducible rfl)
        simp only [Act.put, List.setIfInBounds_toArray, List.set_cons_zero, List.set_cons_succ]
        refine wpAnyH_ready (rs := [6]) (by kernel_rfl) (by simp) ?_
        refine AllReadyH.cons rfl (fun K hK => ?_) AllReadyH.nil
        go_simp
        refine (unhide M1 _).mono ?_
        rintro e w1 ⟨rfl, hb1⟩
        go_wp2_with fail
        refine hK.out _ _ ((hb1.cell (p := ⟨g, k * 3, none⟩) hgl2).trans c0) (fun hHeld2 => ?_)
        clear hK K hHeld
        have hHeld := hHeld2; clear hHeld2
        try simp only [Act.put, List.setIfInBounds_toArray, List.set_cons_zero, List.set_cons_succ]
        refine takeVal 7 (some 19) ?_ rfl (by kernel_rfl) (by kernel_rfl) (by kernel_rfl) rfl (fun _ _ _ h => h) (by rfl) (by assumption) ?_ ?_
        rotate_left
        · (intro w hSw; (try dsimp only at hSw); go_simp <;> with_reducible rfl)
        simp only [Act.put, List.setIfInBounds_toArray, List.set_cons_zero, List.set_cons_succ]
        refine wpAnyH_done (by kernel_rfl) ?_ _
        have hB1 := below2 hbel.drew hb1
        have hgl3 : g < w1.heap.size := by have := hB1.size; omega
        have d1 := (hb1.cell (p := ⟨g, k * 3 + 1, none⟩) hgl2).trans c1
        have d2 := (hb1.cell (p := ⟨g, k * 3 + 2, none⟩) hgl2).trans c2
        clear c0 c1 c2 hb1
        go_wp2
        refine wp_region_held_drew (S := fun w' => w'.cell? ⟨g, k * 3 + 1, none⟩ = some (.string ⟨(mkL (K + 1)).toArray⟩)) (by kernel_rfl) (d1) (fun hHeld => ?_)
        refine takeVal 0 (some 22) ?_ rfl (by kernel_rfl) (by kernel_rfl) (by kernel_rfl) rfl (fun _ _ _ h => h) (by rfl) (by assumption) ?_ ?_
        rotate_left
        · (intro w hSw; (try dsimp only at hSw); go_simp <;> with_reducible rfl)
        simp only [Act.put, List.setIfInBounds_toArray, List.set_cons_zero, List.set_cons_succ]
        refine takeVal 1 (some 23) ?_ rfl (by kernel_rfl) (by kernel_rfl) (by kernel_rfl) rfl (fun _ _ _ h => h) (by rfl) (by assumption) ?_ ?_
        rotate_left
        · (intro w hSw; (try dsimp only at hSw); go_simp <;> with_reducible rfl)
        simp only [Act.put, List.setIfInBounds_toArray, List.set_cons_zero, List.set_cons_succ]
        refine takeVal 2 (some 24) ?_ rfl (by kernel_rfl) (by kernel_rfl) (by kernel_rfl) rfl (fun _ _ _ h => h) (by rfl) (by assumption) ?_ ?_
        rotate_left
        · (intro w hSw; (try dsimp only at hSw); go_simp <;> with_reducible rfl)
        simp only [Act.put, List.setIfInBounds_toArray, List.set_cons_zero, List.set_cons_succ]
        refine takeVal 3 (some 25) ?_ rfl (by kernel_rfl) (by kernel_rfl) (by kernel_rfl) rfl (fun _ _ _ h => h) (by rfl) (by assumption) ?_ ?_
        rotate_left
        · (intro w hSw; (try dsimp only at hSw); go_simp <;> with_reducible rfl)
        simp only [Act.put, List.setIfInBounds_toArray, List.set_cons_zero, List.set_cons_succ]
        refine takeVal 4 (some 26) ?_ rfl (by kernel_rfl) (by kernel_rfl) (by kernel_rfl) rfl (fun _ _ _ h => h) (by rfl) (by assumption) ?_ ?_
        rotate_left
        · (intro w hSw; (try dsimp only at hSw); go_simp <;> with_reducible rfl)
        simp only [Act.put, List.setIfInBounds_toArray, List.set_cons_zero, List.set_cons_succ]
        refine takeVal 5 (some 27) ?_ rfl (by kernel_rfl) (by kernel_rfl) (by kernel_rfl) rfl (fun _ _ _ h => h) (by rfl) (by assumption) ?_ ?_
        rotate_left
        · (intro w hSw; (try dsimp only at hSw); go_simp <;> with_reducible rfl)
        simp only [Act.put, List.setIfInBounds_toArray, List.set_cons_zero, List.set_cons_succ]
        refine wpAnyH_ready (rs := [6]) (by kernel_rfl) (by simp) ?_
        refine AllReadyH.cons rfl (fun K hK => ?_) AllReadyH.nil
        go_simp
        refine (unhide M2 _).mono ?_
        rintro e w2 ⟨rfl, hb2⟩
        go_wp2_with fail
        refine hK.out _ _ ((hb2.cell (p := ⟨g, k * 3 + 1, none⟩) hgl3).trans d1) (fun hHeld2 => ?_)
        clear hK K hHeld
        have hHeld := hHeld2; clear hHeld2
        try simp only [Act.put, List.setIfInBounds_toArray, List.set_cons_zero, List.set_cons_succ]
        refine takeVal 7 (some 29) ?_ rfl (by kernel_rfl) (by kernel_rfl) (by kernel_rfl) rfl (fun _ _ _ h => h) (by rfl) (by assumption) ?_ ?_
        rotate_left
        · (intro w hSw; (try dsimp only at hSw); go_simp <;> with_reducible rfl)
        simp only [Act.put, List.setIfInBounds_toArray, List.set_cons_zero, List.set_cons_succ]
        refine wpAnyH_done (by kernel_rfl) ?_ _
        have e2 := (hb2.cell (p := ⟨g, k * 3 + 2, none⟩) hgl3).trans d2
        have hB2 := below2 hB1.drew hb2
        rw [show ((K + 2 : Nat) : Int) = (K : Int) + 1 + 1 from by omega] at e2
        clear d1 d2 hb2
        go_wp2
        go_roundw
        case rel => exact ⟨k + 1, K + 3, by omega, by have := unhide HK; omega, by go_num, by go_num, hB2⟩
        case measure => simp [intOf]; omega
      · have e : k = n := by omega
        subst e
        have HK := hide hK
        clear hK
        go_wp2
        go_ret
        exact ⟨by rw [← unhide HK]; rfl, hbel⟩

set_option maxHeartbeats 1000000 in
theorem markDisk_any (l : List Fl) (v : Value) (B k0 : Nat) (w : World) (hs : l.length ≤ 1048576) (hk0 : 1 ≤ k0) (hk1 : k0 ≤ 100000000) 
    (h : OwnF B w v l) :
    Calls Try.prog 33 #[.agg #[v], .int .i64 k0] w fun e w' => e = .returned (.int .i64 ((k0 + l.length * 3 : Nat) : Int)) ∧ OwnF B w' v (marksF k0 l.length) ∧ w.grownBy w' v.ownBlock := by
  obtain ⟨a, c, rfl, _⟩ := h.shape0
  have HO := hide h
  clear h
  obtain ⟨K, hK⟩ : ∃ K, K = k0 + l.length * 3 := ⟨_, rfl⟩
  have cM := fun wx h2 => markFileS_any l (.slice a l.length c) B k0 wx hs hk0 hk1 h2
  rw [← hK] at cM ⊢
  have CM := hide cM
  clear cM hK
  go_enter Try.func33, Try.ntmps33
  go_wp2_with fail
  have hb0 := (Below.refl w.heap.size w).alloc (Nat.le_refl _) (.cells #[.slice a l.length c] 26)
  have hsz : w.heap.size ≤ (w.alloc (.cells #[.slice a l.length c] 26)).heap.size := by simp
  generalize w.alloc (.cells #[.slice a l.length c] 26) = W at *
  refine (unhide CM W (own_stays (unhide HO) hb0)).mono ?_
  rintro e w1 ⟨rfl, own1, hb1⟩
  have O1 := hide own1
  clear own1
  go_wp2
  go_ret
  exact ⟨rfl, unhide O1, below_then_grown hb0 hb1⟩

set_option maxHeartbeats 1000000 in
theorem heldDisk_any (n : Nat) (v : Value) (B k0 : Nat) (w : World) (hs : n ≤ 1048576) (hk0 : 1 ≤ k0) (hk1 : k0 ≤ 100000000) (h : OwnF B w v (marksF k0 n)) :
    Calls Try.prog 34 #[.agg #[v], .int .i64 k0] w fun e w' => e = .returned (.int .i64 ((k0 + n * 3 : Nat) : Int)) ∧ Below w.heap.size w w' := by
  obtain ⟨a, c, rfl, _⟩ := h.shape0
  rw [marksF_length] at *
  have HO := hide h
  clear h
  obtain ⟨K, hK⟩ : ∃ K, K = k0 + n * 3 := ⟨_, rfl⟩
  have cM := fun wx h1 => heldFileS_any n (.slice a n c) B k0 wx hs hk0 hk1 h1
  rw [← hK] at cM ⊢
  have CM := hide cM
  have i0 : (0 : Int) ≤ (K : Int) := by omega
  clear cM hK
  go_enter Try.func34, Try.ntmps34
  go_wp2_with fail
  have hb0 := (Below.refl w.heap.size w).alloc (Nat.le_refl _) (.cells #[.slice a n c] 26)
  generalize w.alloc (.cells #[.slice a n c] 26) = W at *
  refine (unhide CM W (own_stays (unhide HO) hb0)).mono ?_
  rintro e w1 ⟨rfl, hb1⟩
  go_wp2
  go_ret
  exact ⟨rfl, below2 hb0 hb1⟩
end Go.Proofs.Ytipmbfjcgmchkaa
