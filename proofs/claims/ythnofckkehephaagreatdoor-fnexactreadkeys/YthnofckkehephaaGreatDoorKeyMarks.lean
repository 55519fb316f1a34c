/- Rows of Keys that are the same; marks in them. Made by gen_rows.py. -/
import Derived.Test.YthnofckkehephaaGreatDoorKeyRow
namespace Go.Proofs.YthnofckkehephaaGreatDoor
open Go.RowKit
open Plain
set_option linter.unusedVariables false

namespace Plain
def mkKy (K : Nat) : Ky := ⟨(K : Int), (K : Int) + 1, ⟨(mkL (K + 2)).toArray⟩⟩
end Plain
set_option maxHeartbeats 1000000 in
set_option maxRecDepth 100000 in
theorem eqKeyS_same (l : List Ky) (v1 v2 : Value) (B1 B2 : Nat) (w : World) (hs : l.length ≤ 1048576) (h1 : OwnKy B1 w v1 l) (h2 : OwnKy B2 w v2 l) :
    Calls Tryz.prog 8 #[v1, v2] w fun e w' => e = .returned (.bool true) ∧ Below w.heap.size w w' := by
  unfold OwnKy at h1 h2
  obtain ⟨n, hn⟩ : ∃ n, n = l.length := ⟨_, rfl⟩
  rw [← hn] at h1 h2 hs
  by_cases hz : n = 0
  · obtain ⟨a1, c1, rfl⟩ := g_shape h1
    obtain ⟨a2, c2, rfl⟩ := g_shape h2
    clear h1 h2 hn
    subst hz
    go_enter Tryz.func8, Tryz.ntmps8
    go_wp2
    refine wp_loop_rounds 1 ?_
    rw [rounds_succ]
    go_wp2
    go_ret
    exact ⟨rfl, Below.refl _ _⟩
  · rcases h1.2 with ⟨_, h10⟩ | ⟨g1, c1, cur1, rfl, hb1, hh1, _⟩
    · exact absurd h10 hz
    rcases h2.2 with ⟨_, h20⟩ | ⟨g2, c2, cur2, rfl, hb2, hh2, _⟩
    · exact absurd h20 hz
    have hl1 : g1 < w.heap.size := (h1.lt _ rfl).2
    have hl2 : g2 < w.heap.size := (h2.lt _ rfl).2
    have C1 := hide (fun (k : Nat) (f : Ky) (hx : l[k]? = some f) (hk : k < n) => ky_cells h1 hx hk)
    have C2 := hide (fun (k : Nat) (f : Ky) (hx : l[k]? = some f) (hk : k < n) => ky_cells h2 hx hk)
    have HN := hide hn
    clear h1 h2 hh1 hh2 hn
    go_enter Tryz.func8, Tryz.ntmps8
    go_wp2
    go_loopw [5] (fun i wr => ∃ k : Nat, k ≤ n ∧ i = .int .i64 k ∧ Below w.heap.size w wr) (fun i _ => n - (intOf i).toNat)
    case atStart => exact ⟨0, Nat.zero_le _, rfl, Below.refl _ _⟩
    case round =>
      obtain ⟨k, hk, rfl, hbel⟩ := hrel
      by_cases hlt : k < n
      · have hkl : k < l.length := by rw [← unhide HN]; exact hlt
        obtain ⟨c0, c1, c2⟩ := unhide C1 k l[k] (List.getElem?_eq_getElem hkl) hlt
        obtain ⟨d0, d1, d2⟩ := unhide C2 k l[k] (List.getElem?_eq_getElem hkl) hlt
        generalize l[k] = f at *
        obtain ⟨kind, num, text⟩ := f
        simp only at c0 c1 c2 d0 d1 d2
        have HE := hide (fun wx => eqKey_same kind num text wx)
        rw [← hbel.cell (p := ⟨g1, _, none⟩) hl1] at c0 c1 c2
        rw [← hbel.cell (p := ⟨g2, _, none⟩) hl2] at d0 d1 d2
        have hr1 : g1 < wr.heap.size := Nat.lt_of_lt_of_le hl1 hbel.size
        have hr2 : g2 < wr.heap.size := Nat.lt_of_lt_of_le hl2 hbel.size
        have hik : (0 : Int) ≤ (k : Int) := by omega
        have hil : (k : Int) < (n : Int) := by omega
        go_wp2
        refine wp_region_held_drew (S := fun w' => w'.cell? ⟨g1, k * 3, none⟩ = some (.int .i64 kind) ∧ w'.cell? ⟨g1, k * 3 + 1, none⟩ = some (.int .i64 num) ∧ w'.cell? ⟨g1, k * 3 + 2, none⟩ = some (.string text) ∧ w'.cell? ⟨g2, k * 3, none⟩ = some (.int .i64 kind) ∧ w'.cell? ⟨g2, k * 3 + 1, none⟩ = some (.int .i64 num) ∧ w'.cell? ⟨g2, k * 3 + 2, none⟩ = some (.string text)) (by kernel_rfl) (⟨c0, c1, c2, d0, d1, d2⟩) (fun hHeld => ?_)
        refine takeVal 0 (some 17) ?_ rfl (by kernel_rfl) (by kernel_rfl) (by kernel_rfl) rfl (fun _ _ _ h => h) (by rfl) (by assumption) ?_ ?_
        rotate_left
        · (intro w hSw; (try dsimp only at hSw); go_simp <;> with_reducible rfl)
        simp only [Act.put, List.setIfInBounds_toArray, List.set_cons_zero, List.set_cons_succ]
        refine takeVal 1 (some 18) ?_ rfl (by kernel_rfl) (by kernel_rfl) (by kernel_rfl) rfl (fun _ _ _ h => h) (by rfl) (by assumption) ?_ ?_
        rotate_left
        · (intro w hSw; (try dsimp only at hSw); go_simp <;> with_reducible rfl)
        simp only [Act.put, List.setIfInBounds_toArray, List.set_cons_zero, List.set_cons_succ]
        refine takeVal 2 (some 19) ?_ rfl (by kernel_rfl) (by kernel_rfl) (by kernel_rfl) rfl (fun _ _ _ h => h) (by rfl) (by assumption) ?_ ?_
        rotate_left
        · (intro w hSw; (try dsimp only at hSw); go_simp <;> with_reducible rfl)
        simp only [Act.put, List.setIfInBounds_toArray, List.set_cons_zero, List.set_cons_succ]
        refine takeVal 3 (some 20) ?_ rfl (by kernel_rfl) (by kernel_rfl) (by kernel_rfl) rfl (fun _ _ _ h => h) (by rfl) (by assumption) ?_ ?_
        rotate_left
        · (intro w hSw; (try dsimp only at hSw); go_simp <;> with_reducible rfl)
        simp only [Act.put, List.setIfInBounds_toArray, List.set_cons_zero, List.set_cons_succ]
        refine takeVal 4 (some 21) ?_ rfl (by kernel_rfl) (by kernel_rfl) (by kernel_rfl) rfl (fun _ _ _ h => h) (by rfl) (by assumption) ?_ ?_
        rotate_left
        · (intro w hSw; (try dsimp only at hSw); go_simp <;> with_reducible rfl)
        simp only [Act.put, List.setIfInBounds_toArray, List.set_cons_zero, List.set_cons_succ]
        refine takeVal 5 (some 22) ?_ rfl (by kernel_rfl) (by kernel_rfl) (by kernel_rfl) rfl (fun _ _ _ h => h) (by rfl) (by assumption) ?_ ?_
        rotate_left
        · (intro w hSw; (try dsimp only at hSw); go_simp <;> with_reducible rfl)
        simp only [Act.put, List.setIfInBounds_toArray, List.set_cons_zero, List.set_cons_succ]
        refine takeVal 6 (some 23) ?_ rfl (by kernel_rfl) (by kernel_rfl) (by kernel_rfl) rfl (fun _ _ _ h => h) (by rfl) (by assumption) ?_ ?_
        rotate_left
        · (intro w hSw; (try dsimp only at hSw); go_simp <;> with_reducible rfl)
        simp only [Act.put, List.setIfInBounds_toArray, List.set_cons_zero, List.set_cons_succ]
        refine takeVal 7 (some 24) ?_ rfl (by kernel_rfl) (by kernel_rfl) (by kernel_rfl) rfl (fun _ _ _ h => h) (by rfl) (by assumption) ?_ ?_
        rotate_left
        · (intro w hSw; (try dsimp only at hSw); go_simp <;> with_reducible rfl)
        simp only [Act.put, List.setIfInBounds_toArray, List.set_cons_zero, List.set_cons_succ]
        refine wpAnyH_ready (rs := [8]) (by kernel_rfl) (by simp) ?_
        refine AllReadyH.cons rfl (fun K hK => ?_) AllReadyH.nil
        go_simp
        refine (unhide HE wr.drew).mono ?_
        rintro e w1 ⟨rfl, hb1⟩
        go_wp2_with fail
        refine hK.out _ _ (⟨g_cell (w := wr.drew) hb1 hHeld.1, g_cell (w := wr.drew) hb1 hHeld.2.1, g_cell (w := wr.drew) hb1 hHeld.2.2.1, g_cell (w := wr.drew) hb1 hHeld.2.2.2.1, g_cell (w := wr.drew) hb1 hHeld.2.2.2.2.1, g_cell (w := wr.drew) hb1 hHeld.2.2.2.2.2⟩) (fun hHeld2 => ?_)
        clear hK K hHeld
        have hHeld := hHeld2; clear hHeld2
        try simp only [Act.put, List.setIfInBounds_toArray, List.set_cons_zero, List.set_cons_succ]
        refine takeVal 9 (some 26) ?_ rfl (by kernel_rfl) (by kernel_rfl) (by kernel_rfl) rfl (fun _ _ _ h => h) (by rfl) (by assumption) ?_ ?_
        rotate_left
        · (intro w hSw; (try dsimp only at hSw); go_simp <;> with_reducible rfl)
        simp only [Act.put, List.setIfInBounds_toArray, List.set_cons_zero, List.set_cons_succ]
        refine wpAnyH_done (by kernel_rfl) ?_ _
        go_wp2
        go_roundw
        case rel => exact ⟨k + 1, by omega, by go_num, below2 hbel.drew hb1⟩
        case measure => simp [intOf]; omega
      · go_wp2
        go_ret
        exact ⟨rfl, hbel⟩

set_option maxHeartbeats 2000000 in
set_option maxRecDepth 100000 in
theorem markKeyS_any (l : List Ky) (v : Value) (B k0 : Nat) (w : World) (hs : l.length ≤ 1048576) (hk0 : 1 ≤ k0) (hk1 : k0 ≤ 100000000) (h : OwnKy B w v l) :
    Calls Tryz.prog 11 #[v, .int .i64 (k0 : Int)] w fun e w' => e = .returned (.int .i64 ((k0 + l.length * 3 : Nat) : Int)) ∧ OwnKy B w' v (marksK mkKy 3 k0 l.length) ∧ w.grownBy w' v.ownBlock := by
  unfold OwnKy at h ⊢
  rw [marksK_len]
  obtain ⟨n, hn⟩ : ∃ n, n = l.length := ⟨_, rfl⟩
  have HN := hide hn
  rw [← hn] at h hs ⊢
  clear hn
  rcases h.2 with ⟨rfl, hz⟩ | ⟨g, cap, cur, rfl, hbg, hh, hrest⟩
  · subst hz
    have hl : l = [] := List.eq_nil_of_length_eq_zero (unhide HN).symm
    subst hl
    go_enter Tryz.func11, Tryz.ntmps11
    go_wp2
    refine wp_loop_rounds 1 ?_
    rw [rounds_succ]
    go_wp2
    go_ret
    exact ⟨by simp, h, g_self _ _⟩
  · clear hh hrest
    have H0 := hide h
    clear h
    go_enter Tryz.func11, Tryz.ntmps11
    go_wp2
    go_loopw [1, 5] (fun m i wr => ∃ (k K : Nat), k ≤ n ∧ K = k0 + k * 3 ∧ i = .int .i64 k ∧ m = .int .i64 (K : Int) ∧ wr.ownsRow B 33 3 (.slice (some ⟨g, 0, none⟩) n cap) n (rowC kyC (markedK mkKy 3 k0 l k)) ∧ w.grownBy wr (some g)) (fun _ i _ => n - (intOf i).toNat)
    case atStart => exact ⟨0, k0, Nat.zero_le _, by simp, rfl, rfl, by rw [markedK_zero]; exact unhide H0, g_self _ _⟩
    case round =>
      obtain ⟨k, K, hk, hK, rfl, rfl, hown, hgr⟩ := hrel
      by_cases hlt : k < n
      · have hkl : k < l.length := by have := unhide HN; omega
        have hset := hide (markedK_set mkKy 3 k0 hkl)
        have hget := markedK_at mkKy 3 k0 hkl
        have hKb : K ≤ 200000000 := by omega
        have hK0 : 1 ≤ K := by omega
        generalize l[k] = f at *
        rw [← hK] at hset
        have HK := hide hK
        clear hK
        have N2 := fun wx => markText_any (K + 2) wx (by omega) (by omega)
        rw [show ((K + 2 : Nat) : Int) = (K : Int) + 1 + 1 from by omega] at N2
        have M2 := hide N2
        clear N2
        obtain ⟨y0, d0⟩ := g_some hown (j := k * 3) (by omega)
        have f0 := hown.frozenAt (k * 3)
        obtain ⟨y1, d1⟩ := g_some hown (j := k * 3 + 1) (by omega)
        have f1 := hown.frozenAt (k * 3 + 1)
        have s0 := hown.stored (k * 3) (.int .i64 ((K : Int)))
        have r0 : (rowC kyC (markedK mkKy 3 k0 l k)).set (k * 3) (.int .i64 ((K : Int))) = rowC kyC ((markedK mkKy 3 k0 l k).set k (⟨(K : Int), f.num, f.text⟩ : Ky)) := rowC_set kyC_len hget (j := 0) (by decide) (⟨(K : Int), f.num, f.text⟩ : Ky) (.int .i64 ((K : Int))) rfl
        rw [r0] at s0
        clear r0
        have g10 := g_store (j := k * 3) hgr (.int .i64 ((K : Int)))
        have s1 := s0.1.stored (k * 3 + 1) (.int .i64 ((K : Int) + 1))
        rw [rowC_set2 kyC_len hget (⟨(K : Int), f.num, f.text⟩ : Ky) (j := 1) (by decide) (⟨(K : Int), (K : Int) + 1, f.text⟩ : Ky) (.int .i64 ((K : Int) + 1)) rfl] at s1
        have g11 := g_store (j := k * 3 + 1) g10 (.int .i64 ((K : Int) + 1))
        have OX0 := hide s1.1
        have GX0 := hide g11
        clear hown hgr s0 g10 s1 g11
        go_wp2_with fail
        obtain ⟨X0, hX⟩ : ∃ X, X = ((wr.setCell ⟨g, k * 3, none⟩ (.int .i64 ((K : Int)))).setCell ⟨g, k * 3 + 1, none⟩ (.int .i64 ((K : Int) + 1))) := ⟨_, rfl⟩
        rw [← hX] at OX0 GX0 ⊢
        clear hX d0 f0 d1 f1
        refine (unhide M2 X0).mono ?_
        rintro e v0 ⟨rfl, hb⟩
        have ow0 := g_stays (unhide OX0) hb
        have gw0 := g_then (unhide GX0) hb
        clear hb
        obtain ⟨y2, d2⟩ := g_some ow0 (j := k * 3 + 2) (by omega)
        have f2 := ow0.frozenAt (k * 3 + 2)
        have s2 := ow0.stored (k * 3 + 2) (.string ⟨(mkL (K + 2)).toArray⟩)
        rw [rowC_set2 kyC_len hget (⟨(K : Int), (K : Int) + 1, f.text⟩ : Ky) (j := 2) (by decide) (⟨(K : Int), (K : Int) + 1, ⟨(mkL (K + 2)).toArray⟩⟩ : Ky) (.string ⟨(mkL (K + 2)).toArray⟩) rfl] at s2
        have g12 := g_store (j := k * 3 + 2) gw0 (.string ⟨(mkL (K + 2)).toArray⟩)
        have SZ := hide s2.1
        have GZ := hide g12
        rw [show (⟨(K : Int), (K : Int) + 1, ⟨(mkL (K + 2)).toArray⟩⟩ : Ky) = mkKy K from rfl, unhide hset] at SZ
        clear hget ow0 gw0 s2 g12
        go_wp2
        go_roundw
        case rel => exact ⟨k + 1, K + 3, by omega, by have := unhide HK; omega, by go_num, by go_num, unhide SZ, unhide GZ⟩
        case measure => simp [intOf]; omega
      · have e : k = n := by omega
        subst e
        have HK := hide hK
        clear hK
        have hown' : wr.ownsRow B 33 3 (.slice (some ⟨g, 0, none⟩) k cap) k (rowC kyC (marksK mkKy 3 k0 k)) := by
          have e2 : markedK mkKy 3 k0 l k = marksK mkKy 3 k0 k := by rw [unhide HN]; exact markedK_all _ _ _ _
          rw [e2] at hown
          exact hown
        have OO := hide hown'
        have GG := hide hgr
        clear hown hown' hgr
        go_wp2
        go_ret
        exact ⟨by rw [← unhide HK]; rfl, unhide OO, unhide GG⟩

set_option maxHeartbeats 1000000 in
set_option maxRecDepth 100000 in
theorem heldKeyS_any (n : Nat) (v : Value) (B k0 : Nat) (w : World) (hs : n ≤ 1048576) (hk0 : 1 ≤ k0) (hk1 : k0 ≤ 100000000) (h : OwnKy B w v (marksK mkKy 3 k0 n)) :
    Calls Tryz.prog 12 #[v, .int .i64 (k0 : Int)] w fun e w' => e = .returned (.int .i64 ((k0 + n * 3 : Nat) : Int)) ∧ Below w.heap.size w w' := by
  unfold OwnKy at h
  rw [marksK_len] at h
  rcases h.2 with ⟨rfl, hz⟩ | ⟨g, cap, cur, rfl, hbg, hh, hrest⟩
  · subst hz
    go_enter Tryz.func12, Tryz.ntmps12
    go_wp2
    refine wp_loop_rounds 1 ?_
    rw [rounds_succ]
    go_wp2
    go_ret
    exact ⟨by simp, Below.refl _ _⟩
  · have hgl : g < w.heap.size := (h.lt g rfl).2
    have C := hide (fun (k : Nat) (hk : k < n) => ky_cells h (marksK_get (k0 := k0) hk) hk)
    clear hh hrest h
    go_enter Tryz.func12, Tryz.ntmps12
    go_wp2
    go_loopw [1, 5] (fun m i wr => ∃ (k K : Nat), k ≤ n ∧ K = k0 + k * 3 ∧ i = .int .i64 k ∧ m = .int .i64 (K : Int) ∧ Below w.heap.size w wr) (fun _ i _ => n - (intOf i).toNat)
    case atStart => exact ⟨0, k0, Nat.zero_le _, by simp, rfl, rfl, Below.refl _ _⟩
    case round =>
      obtain ⟨k, K, hk, hK, rfl, rfl, hbel⟩ := hrel
      by_cases hlt : k < n
      · obtain ⟨c0, c1, c2⟩ := unhide C k hlt
        rw [← hK] at c0 c1 c2
        rw [← hbel.cell (p := ⟨g, _, none⟩) hgl] at c0 c1 c2
        simp only [mkKy] at c0 c1 c2
        have N2 := fun wx => markText_any (K + 2) wx (by omega) (by omega)
        rw [show ((K + 2 : Nat) : Int) = (K : Int) + 1 + 1 from by omega] at N2
        have M2 := hide N2
        clear N2
        have hgl2 : g < wr.heap.size := by have := hbel.size; omega
        have hI1 : (0 : Int) ≤ (k : Int) := by omega
        have hI2 : (k : Int) < (n : Int) := by omega
        have hKb : K ≤ 200000000 := by omega
        have HK := hide hK
        clear hK
        go_wp2
        refine wp_region_held_drew (S := fun w' => w'.cell? ⟨g, k * 3 + 2, none⟩ = some (.string ⟨(mkL (K + 2)).toArray⟩)) (by kernel_rfl) (c2) (fun hHeld => ?_)
        refine takeVal 0 (some 30) ?_ rfl (by kernel_rfl) (by kernel_rfl) (by kernel_rfl) rfl (fun _ _ _ h => h) (by rfl) (by assumption) ?_ ?_
        rotate_left
        · (intro w hSw; (try dsimp only at hSw); go_simp <;> with_reducible rfl)
        simp only [Act.put, List.setIfInBounds_toArray, List.set_cons_zero, List.set_cons_succ]
        refine takeVal 1 (some 31) ?_ rfl (by kernel_rfl) (by kernel_rfl) (by kernel_rfl) rfl (fun _ _ _ h => h) (by rfl) (by assumption) ?_ ?_
        rotate_left
        · (intro w hSw; (try dsimp only at hSw); go_simp <;> with_reducible rfl)
        simp only [Act.put, List.setIfInBounds_toArray, List.set_cons_zero, List.set_cons_succ]
        refine takeVal 2 (some 32) ?_ rfl (by kernel_rfl) (by kernel_rfl) (by kernel_rfl) rfl (fun _ _ _ h => h) (by rfl) (by assumption) ?_ ?_
        rotate_left
        · (intro w hSw; (try dsimp only at hSw); go_simp <;> with_reducible rfl)
        simp only [Act.put, List.setIfInBounds_toArray, List.set_cons_zero, List.set_cons_succ]
        refine takeVal 3 (some 33) ?_ rfl (by kernel_rfl) (by kernel_rfl) (by kernel_rfl) rfl (fun _ _ _ h => h) (by rfl) (by assumption) ?_ ?_
        rotate_left
        · (intro w hSw; (try dsimp only at hSw); go_simp <;> with_reducible rfl)
        simp only [Act.put, List.setIfInBounds_toArray, List.set_cons_zero, List.set_cons_succ]
        refine takeVal 4 (some 34) ?_ rfl (by kernel_rfl) (by kernel_rfl) (by kernel_rfl) rfl (fun _ _ _ h => h) (by rfl) (by assumption) ?_ ?_
        rotate_left
        · (intro w hSw; (try dsimp only at hSw); go_simp <;> with_reducible rfl)
        simp only [Act.put, List.setIfInBounds_toArray, List.set_cons_zero, List.set_cons_succ]
        refine takeVal 5 (some 35) ?_ rfl (by kernel_rfl) (by kernel_rfl) (by kernel_rfl) rfl (fun _ _ _ h => h) (by rfl) (by assumption) ?_ ?_
        rotate_left
        · (intro w hSw; (try dsimp only at hSw); go_simp <;> with_reducible rfl)
        simp only [Act.put, List.setIfInBounds_toArray, List.set_cons_zero, List.set_cons_succ]
        refine wpAnyH_ready (rs := [6]) (by kernel_rfl) (by simp) ?_
        refine AllReadyH.cons rfl (fun K hK => ?_) AllReadyH.nil
        go_simp
        refine (unhide M2 _).mono ?_
        rintro e w1 ⟨rfl, hb1⟩
        go_wp2_with fail
        refine hK.out _ _ ((hb1.cell (p := ⟨g, k * 3 + 2, none⟩) hgl2).trans c2) (fun hHeld2 => ?_)
        clear hK K hHeld
        have hHeld := hHeld2; clear hHeld2
        try simp only [Act.put, List.setIfInBounds_toArray, List.set_cons_zero, List.set_cons_succ]
        refine takeVal 7 (some 37) ?_ rfl (by kernel_rfl) (by kernel_rfl) (by kernel_rfl) rfl (fun _ _ _ h => h) (by rfl) (by assumption) ?_ ?_
        rotate_left
        · (intro w hSw; (try dsimp only at hSw); go_simp <;> with_reducible rfl)
        simp only [Act.put, List.setIfInBounds_toArray, List.set_cons_zero, List.set_cons_succ]
        refine wpAnyH_done (by kernel_rfl) ?_ _
        have hB1 := below2 hbel.drew hb1
        have hglx1 : g < w1.heap.size := by have := hB1.size; omega
        go_wp2
        go_roundw
        case rel => exact ⟨k + 1, K + 3, by omega, by have := unhide HK; omega, by go_num, by go_num, hB1⟩
        case measure => simp [intOf]; omega
      · have e : k = n := by omega
        subst e
        have HK := hide hK
        clear hK
        go_wp2
        go_ret
        exact ⟨by rw [← unhide HK]; rfl, hbel⟩
end Go.Proofs.YthnofckkehephaaGreatDoor
