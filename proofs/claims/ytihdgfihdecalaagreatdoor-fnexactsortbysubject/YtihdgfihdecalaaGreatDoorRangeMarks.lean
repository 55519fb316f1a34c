/- Rows of ranges that are the same; marks in a row of ranges. -/
import Derived.Test.YtihdgfihdecalaaGreatDoorSetA
import Derived.Test.YtihdgfihdecalaaGreatDoorRegA
namespace Go.Proofs.YtihdgfihdecalaaGreatDoor
open Go.RowKit
open Plain
set_option linter.unusedVariables false

set_option maxHeartbeats 1000000 in
set_option maxRecDepth 100000 in
theorem eqRangeS_same (l : List Rg) (v1 v2 : Value) (B1 B2 : Nat) (w : World) (hs : l.length ≤ 1048576) (h1 : OwnR B1 w v1 l) (h2 : OwnR B2 w v2 l) :
    Calls Tryz.prog 13 #[v1, v2] w fun e w' => e = .returned (.bool true) ∧ Below w.heap.size w w' := by
  unfold OwnR at h1 h2
  obtain ⟨n, hn⟩ : ∃ n, n = l.length := ⟨_, rfl⟩
  rw [← hn] at h1 h2 hs
  by_cases hz : n = 0
  · obtain ⟨a1, c1, rfl⟩ := g_shape h1
    obtain ⟨a2, c2, rfl⟩ := g_shape h2
    clear h1 h2 hn
    subst hz
    go_enter Tryz.func13, Tryz.ntmps13
    go_wp2
    refine wp_loop_rounds 1 ?_
    rw [rounds_succ]
    go_wp2
    go_ret
    exact ⟨rfl, Below.refl _ _⟩
  · rcases h1.2 with ⟨_, h10⟩ | ⟨g1, c1, cur1, rfl, hb1, hh1, _⟩
    · exact absurd h10 hz
    rcases h2.2 with ⟨_, h20⟩ | ⟨g2, c2, cur2, rfl, hb2, hh2, _⟩
    · exact absurd h20 hz
    have hl1 : g1 < w.heap.size := (h1.lt _ rfl).2
    have hl2 : g2 < w.heap.size := (h2.lt _ rfl).2
    have C1 := hide (fun (k : Nat) (f : Rg) (hx : l[k]? = some f) (hk : k < n) => rg_cells h1 hx hk)
    have C2 := hide (fun (k : Nat) (f : Rg) (hx : l[k]? = some f) (hk : k < n) => rg_cells h2 hx hk)
    have HN := hide hn
    clear h1 h2 hh1 hh2 hn
    go_enter Tryz.func13, Tryz.ntmps13
    go_wp2
    go_loopw [5] (fun i wr => ∃ k : Nat, k ≤ n ∧ i = .int .i64 k ∧ Below w.heap.size w wr) (fun i _ => n - (intOf i).toNat)
    case atStart => exact ⟨0, Nat.zero_le _, rfl, Below.refl _ _⟩
    case round =>
      obtain ⟨k, hk, rfl, hbel⟩ := hrel
      by_cases hlt : k < n
      · have hkl : k < l.length := by rw [← unhide HN]; exact hlt
        obtain ⟨c0, c1'⟩ := unhide C1 k l[k] (List.getElem?_eq_getElem hkl) hlt
        obtain ⟨d0, d1⟩ := unhide C2 k l[k] (List.getElem?_eq_getElem hkl) hlt
        generalize l[k] = f at *
        obtain ⟨fl, fh⟩ := f
        simp only at c0 c1' d0 d1
        have HE := hide (fun wx => (eqRange_same ⟨fl, fh⟩ wx : Calls Tryz.prog 34 #[.agg #[.int .i64 fl, .int .i64 fh], .agg #[.int .i64 fl, .int .i64 fh]] wx fun e w' => e = .returned (.bool true) ∧ Below wx.heap.size wx w'))
        rw [← hbel.cell (p := ⟨g1, _, none⟩) hl1] at c0 c1'
        rw [← hbel.cell (p := ⟨g2, _, none⟩) hl2] at d0 d1
        have hr1 : g1 < wr.heap.size := Nat.lt_of_lt_of_le hl1 hbel.size
        have hr2 : g2 < wr.heap.size := Nat.lt_of_lt_of_le hl2 hbel.size
        have hik : (0 : Int) ≤ (k : Int) := by omega
        have hil : (k : Int) < (n : Int) := by omega
        go_wp2
        refine wp_region_held_drew (S := fun w' => w'.cell? ⟨g1, k * 2, none⟩ = some (.int .i64 fl) ∧ w'.cell? ⟨g1, k * 2 + 1, none⟩ = some (.int .i64 fh) ∧ w'.cell? ⟨g2, k * 2, none⟩ = some (.int .i64 fl) ∧ w'.cell? ⟨g2, k * 2 + 1, none⟩ = some (.int .i64 fh)) (by kernel_rfl) (⟨c0, c1', d0, d1⟩) (fun hHeld => ?_)
        refine takeVal 0 (some 17) ?_ rfl (by kernel_rfl) (by kernel_rfl) (by kernel_rfl) rfl (fun _ _ _ h => h) (by rfl) (by assumption) ?_ ?_
        rotate_left
        · (intro w hSw; (try dsimp only at hSw); go_simp <;> with_reducible rfl)
        simp only [Act.put, List.setIfInBounds_toArray, List.set_cons_zero, List.set_cons_succ]
        refine takeVal 1 (some 18) ?_ rfl (by kernel_rfl) (by kernel_rfl) (by kernel_rfl) rfl (fun _ _ _ h => h) (by rfl) (by assumption) ?_ ?_
        rotate_left
        · (intro w hSw; (try dsimp only at hSw); go_simp <;> with_reducible rfl)
        simp only [Act.put, List.setIfInBounds_toArray, List.set_cons_zero, List.set_cons_succ]
        refine takeVal 2 (some 19) ?_ rfl (by kernel_rfl) (by kernel_rfl) (by kernel_rfl) rfl (fun _ _ _ h => h) (by rfl) (by assumption) ?_ ?_
        rotate_left
        · (intro w hSw; (try dsimp only at hSw); go_simp <;> with_reducible rfl)
        simp only [Act.put, List.setIfInBounds_toArray, List.set_cons_zero, List.set_cons_succ]
        refine takeVal 3 (some 20) ?_ rfl (by kernel_rfl) (by kernel_rfl) (by kernel_rfl) rfl (fun _ _ _ h => h) (by rfl) (by assumption) ?_ ?_
        rotate_left
        · (intro w hSw; (try dsimp only at hSw); go_simp <;> with_reducible rfl)
        simp only [Act.put, List.setIfInBounds_toArray, List.set_cons_zero, List.set_cons_succ]
        refine takeVal 4 (some 21) ?_ rfl (by kernel_rfl) (by kernel_rfl) (by kernel_rfl) rfl (fun _ _ _ h => h) (by rfl) (by assumption) ?_ ?_
        rotate_left
        · (intro w hSw; (try dsimp only at hSw); go_simp <;> with_reducible rfl)
        simp only [Act.put, List.setIfInBounds_toArray, List.set_cons_zero, List.set_cons_succ]
        refine takeVal 5 (some 22) ?_ rfl (by kernel_rfl) (by kernel_rfl) (by kernel_rfl) rfl (fun _ _ _ h => h) (by rfl) (by assumption) ?_ ?_
        rotate_left
        · (intro w hSw; (try dsimp only at hSw); go_simp <;> with_reducible rfl)
        simp only [Act.put, List.setIfInBounds_toArray, List.set_cons_zero, List.set_cons_succ]
        refine takeVal 6 (some 23) ?_ rfl (by kernel_rfl) (by kernel_rfl) (by kernel_rfl) rfl (fun _ _ _ h => h) (by rfl) (by assumption) ?_ ?_
        rotate_left
        · (intro w hSw; (try dsimp only at hSw); go_simp <;> with_reducible rfl)
        simp only [Act.put, List.setIfInBounds_toArray, List.set_cons_zero, List.set_cons_succ]
        refine takeVal 7 (some 24) ?_ rfl (by kernel_rfl) (by kernel_rfl) (by kernel_rfl) rfl (fun _ _ _ h => h) (by rfl) (by assumption) ?_ ?_
        rotate_left
        · (intro w hSw; (try dsimp only at hSw); go_simp <;> with_reducible rfl)
        simp only [Act.put, List.setIfInBounds_toArray, List.set_cons_zero, List.set_cons_succ]
        refine wpAnyH_ready (rs := [8]) (by kernel_rfl) (by simp) ?_
        refine AllReadyH.cons rfl (fun K hK => ?_) AllReadyH.nil
        go_simp
        refine (unhide HE wr.drew).mono ?_
        rintro e w1 ⟨rfl, hb1⟩
        go_wp2_with fail
        refine hK.out _ _ (⟨g_cell (w := wr.drew) hb1 hHeld.1, g_cell (w := wr.drew) hb1 hHeld.2.1, g_cell (w := wr.drew) hb1 hHeld.2.2.1, g_cell (w := wr.drew) hb1 hHeld.2.2.2⟩) (fun hHeld2 => ?_)
        clear hK K hHeld
        have hHeld := hHeld2; clear hHeld2
        try simp only [Act.put, List.setIfInBounds_toArray, List.set_cons_zero, List.set_cons_succ]
        refine takeVal 9 (some 26) ?_ rfl (by kernel_rfl) (by kernel_rfl) (by kernel_rfl) rfl (fun _ _ _ h => h) (by rfl) (by assumption) ?_ ?_
        rotate_left
        · (intro w hSw; (try dsimp only at hSw); go_simp <;> with_reducible rfl)
        simp only [Act.put, List.setIfInBounds_toArray, List.set_cons_zero, List.set_cons_succ]
        refine wpAnyH_done (by kernel_rfl) ?_ _
        go_wp2
        go_roundw
        case rel => exact ⟨k + 1, by omega, by go_num, below2 hbel.drew hb1⟩
        case measure => simp [intOf]; omega
      · go_wp2
        go_ret
        exact ⟨rfl, hbel⟩

set_option maxHeartbeats 1000000 in
set_option maxRecDepth 100000 in
theorem markRangeS_any (l : List Rg) (v : Value) (B k0 : Nat) (w : World) (hs : l.length ≤ 1048576) (hk1 : k0 ≤ 100000000) (h : OwnR B w v l) :
    Calls Tryz.prog 15 #[v, .int .i64 (k0 : Int)] w fun e w' => e = .returned (.int .i64 ((k0 + l.length * 2 : Nat) : Int)) ∧ OwnR B w' v (marksR k0 l.length) ∧ w.grownBy w' v.ownBlock := by
  unfold OwnR at h ⊢
  rw [marksR_length]
  obtain ⟨n, hn⟩ : ∃ n, n = l.length := ⟨_, rfl⟩
  have HN := hide hn
  rw [← hn] at h hs ⊢
  clear hn
  rcases h.2 with ⟨rfl, hz⟩ | ⟨g, cap, cur, rfl, hbg, hh, hrest⟩
  · subst hz
    have hl : l = [] := List.eq_nil_of_length_eq_zero (unhide HN).symm
    subst hl
    go_enter Tryz.func15, Tryz.ntmps15
    go_wp2
    refine wp_loop_rounds 1 ?_
    rw [rounds_succ]
    go_wp2
    go_ret
    exact ⟨by simp, h, g_self _ _⟩
  · clear hh hrest
    have H0 := hide h
    clear h
    go_enter Tryz.func15, Tryz.ntmps15
    go_wp2
    go_loopw [1, 5] (fun m i wr => ∃ (k K : Nat), k ≤ n ∧ K = k0 + k * 2 ∧ i = .int .i64 k ∧ m = .int .i64 (K : Int) ∧ wr.ownsRow B 60 2 (.slice (some ⟨g, 0, none⟩) n cap) n (rgs (markedR k0 l k)) ∧ w.grownBy wr (some g)) (fun _ i _ => n - (intOf i).toNat)
    case atStart => exact ⟨0, k0, Nat.zero_le _, by simp, rfl, rfl, by rw [markedR_zero]; exact unhide H0, g_self _ _⟩
    case round =>
      obtain ⟨k, K, hk, hK, rfl, rfl, hown, hgr⟩ := hrel
      by_cases hlt : k < n
      · have hkl : k < l.length := by have := unhide HN; omega
        have hset := hide (markedR_set (k0 := k0) hkl)
        have hlen := hide (markedR_length (k0 := k0) (l := l) (i := k) (by omega))
        have hKb : K ≤ 200000000 := by omega
        obtain ⟨y0, d0⟩ := g_some hown (j := k * 2) (by omega)
        obtain ⟨y1, d1⟩ := g_some hown (j := k * 2 + 1) (by omega)
        have f0 := hown.frozenAt (k * 2)
        have f1 := hown.frozenAt (k * 2 + 1)
        have s0 := hown.stored (k * 2) (.int .i64 (K : Int))
        have s1 := s0.1.stored (k * 2 + 1) (.int .i64 ((K : Int) + 1))
        have e1 : ((rgs (markedR k0 l k)).set (k * 2) (.int .i64 (K : Int))).set (k * 2 + 1) (.int .i64 ((K : Int) + 1)) = rgs (markedR k0 l (k + 1)) := by
          rw [← unhide hset, hK]
          exact rgs_set _ k (mkR (k0 + k * 2)) (by rw [unhide hlen]; exact hkl)
        rw [e1] at s1
        have S1 := hide s1.1
        have G1 := hide (g_store (j := k * 2 + 1) (g_store (j := k * 2) hgr (.int .i64 (K : Int))) (.int .i64 ((K : Int) + 1)))
        have HK := hide hK
        clear hown hgr s0 s1 e1 hK
        go_wp2
        go_roundw
        case rel => exact ⟨k + 1, K + 2, by omega, by have := unhide HK; omega, by go_num, by go_num, unhide S1, unhide G1⟩
        case measure => simp [intOf]; omega
      · have e : k = n := by omega
        subst e
        have HK := hide hK
        clear hK
        have hown' : wr.ownsRow B 60 2 (.slice (some ⟨g, 0, none⟩) k cap) k (rgs (marksR k0 k)) := by
          have e2 : markedR k0 l k = marksR k0 k := by rw [unhide HN]; exact markedR_all
          rw [e2] at hown
          exact hown
        have OO := hide hown'
        have GG := hide hgr
        clear hown hown' hgr
        go_wp2
        go_ret
        exact ⟨by rw [← unhide HK]; rfl, unhide OO, unhide GG⟩

end Go.Proofs.YtihdgfihdecalaaGreatDoor
