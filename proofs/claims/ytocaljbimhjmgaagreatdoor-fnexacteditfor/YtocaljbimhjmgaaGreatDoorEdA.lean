/- Several texts in one. -/
import Derived.Test.YtocaljbimhjmgaaGreatDoorSetA
import Derived.Test.YtocaljbimhjmgaaGreatDoorRegA
import Derived.Test.YtocaljbimhjmgaaGreatDoorBoxA
namespace Go.Proofs.YtocaljbimhjmgaaGreatDoor
open Go.RowKit
open Plain
set_option linter.unusedVariables false

set_option maxHeartbeats 1000000 in
set_option maxRecDepth 100000 in
theorem eqRangeS_same (l : List Rg) (v1 v2 : Value) (B1 B2 : Nat) (w : World) (hs : l.length ≤ 1048576) (h1 : OwnR B1 w v1 l) (h2 : OwnR B2 w v2 l) :
    Calls Tryz.prog 27 #[v1, v2] w fun e w' => e = .returned (.bool true) ∧ Below w.heap.size w w' := by
  unfold OwnR at h1 h2
  obtain ⟨n, hn⟩ : ∃ n, n = l.length := ⟨_, rfl⟩
  rw [← hn] at h1 h2 hs
  by_cases hz : n = 0
  · obtain ⟨a1, c1, rfl⟩ := g_shape h1
    obtain ⟨a2, c2, rfl⟩ := g_shape h2
    clear h1 h2 hn
    subst hz
    go_enter Tryz.func27, Tryz.ntmps27
    go_wp2
    refine wp_loop_rounds 1 ?_
    rw [rounds_succ]
    go_wp2
    go_ret
    exact ⟨rfl, Below.refl _ _⟩
  · rcases h1.2 with ⟨_, h10⟩ | ⟨g1, c1, cur1, rfl, hb1, hh1, _⟩
    · exact absurd h10 hz
    rcases h2.2 with ⟨_, h20⟩ | ⟨g2, c2, cur2, rfl, hb2, hh2, _⟩
    · exact absurd h20 hz
    have hl1 : g1 < w.heap.size := (h1.lt _ rfl).2
    have hl2 : g2 < w.heap.size := (h2.lt _ rfl).2
    have C1 := hide (fun (k : Nat) (f : Rg) (hx : l[k]? = some f) (hk : k < n) => rg_cells h1 hx hk)
    have C2 := hide (fun (k : Nat) (f : Rg) (hx : l[k]? = some f) (hk : k < n) => rg_cells h2 hx hk)
    have HN := hide hn
    clear h1 h2 hh1 hh2 hn
    go_enter Tryz.func27, Tryz.ntmps27
    go_wp2
    go_loopw [5] (fun i wr => ∃ k : Nat, k ≤ n ∧ i = .int .i64 k ∧ Below w.heap.size w wr) (fun i _ => n - (intOf i).toNat)
    case atStart => exact ⟨0, Nat.zero_le _, rfl, Below.refl _ _⟩
    case round =>
      obtain ⟨k, hk, rfl, hbel⟩ := hrel
      by_cases hlt : k < n
      · have hkl : k < l.length := by rw [← unhide HN]; exact hlt
        obtain ⟨c0, c1'⟩ := unhide C1 k l[k] (List.getElem?_eq_getElem hkl) hlt
        obtain ⟨d0, d1⟩ := unhide C2 k l[k] (List.getElem?_eq_getElem hkl) hlt
        generalize l[k] = f at *
        obtain ⟨fl, fh⟩ := f
        simp only at c0 c1' d0 d1
        have HE := hide (fun wx => (eqRange_same ⟨fl, fh⟩ wx : Calls Tryz.prog 59 #[.agg #[.int .i64 fl, .int .i64 fh], .agg #[.int .i64 fl, .int .i64 fh]] wx fun e w' => e = .returned (.bool true) ∧ Below wx.heap.size wx w'))
        rw [← hbel.cell (p := ⟨g1, _, none⟩) hl1] at c0 c1'
        rw [← hbel.cell (p := ⟨g2, _, none⟩) hl2] at d0 d1
        have hr1 : g1 < wr.heap.size := Nat.lt_of_lt_of_le hl1 hbel.size
        have hr2 : g2 < wr.heap.size := Nat.lt_of_lt_of_le hl2 hbel.size
        have hik : (0 : Int) ≤ (k : Int) := by omega
        have hil : (k : Int) < (n : Int) := by omega
        go_wp2
        refine wp_region_held_drew (S := fun w' => w'.cell? ⟨g1, k * 2, none⟩ = some (.int .i64 fl) ∧ w'.cell? ⟨g1, k * 2 + 1, none⟩ = some (.int .i64 fh) ∧ w'.cell? ⟨g2, k * 2, none⟩ = some (.int .i64 fl) ∧ w'.cell? ⟨g2, k * 2 + 1, none⟩ = some (.int .i64 fh)) (by kernel_rfl) (⟨c0, c1', d0, d1⟩) (fun hHeld => ?_)
        refine takeVal 0 (some 17) ?_ rfl (by kernel_rfl) (by kernel_rfl) (by kernel_rfl) rfl (fun _ _ _ h => h) (by rfl) (by assumption) ?_ ?_
        rotate_left
        · (intro w hSw; (try dsimp only at hSw); go_simp <;> with_reducible rfl)
        simp only [Act.put, List.setIfInBounds_toArray, List.set_cons_zero, List.set_cons_succ]
        refine takeVal 1 (some 18) ?_ rfl (by kernel_rfl) (by kernel_rfl) (by kernel_rfl) rfl (fun _ _ _ h => h) (by rfl) (by assumption) ?_ ?_
        rotate_left
        · (intro w hSw; (try dsimp only at hSw); go_simp <;> with_reducible rfl)
        simp only [Act.put, List.setIfInBounds_toArray, List.set_cons_zero, List.set_cons_succ]
        refine takeVal 2 (some 19) ?_ rfl (by kernel_rfl) (by kernel_rfl) (by kernel_rfl) rfl (fun _ _ _ h => h) (by rfl) (by assumption) ?_ ?_
        rotate_left
        · (intro w hSw; (try dsimp only at hSw); go_simp <;> with_reducible rfl)
        simp only [Act.put, List.setIfInBounds_toArray, List.set_cons_zero, List.set_cons_succ]
        refine takeVal 3 (some 20) ?_ rfl (by kernel_rfl) (by kernel_rfl) (by kernel_rfl) rfl (fun _ _ _ h => h) (by rfl) (by assumption) ?_ ?_
        rotate_left
        · (intro w hSw; (try dsimp only at hSw); go_simp <;> with_reducible rfl)
        simp only [Act.put, List.setIfInBounds_toArray, List.set_cons_zero, List.set_cons_succ]
        refine takeVal 4 (some 21) ?_ rfl (by kernel_rfl) (by kernel_rfl) (by kernel_rfl) rfl (fun _ _ _ h => h) (by rfl) (by assumption) ?_ ?_
        rotate_left
        · (intro w hSw; (try dsimp only at hSw); go_simp <;> with_reducible rfl)
        simp only [Act.put, List.setIfInBounds_toArray, List.set_cons_zero, List.set_cons_succ]
        refine takeVal 5 (some 22) ?_ rfl (by kernel_rfl) (by kernel_rfl) (by kernel_rfl) rfl (fun _ _ _ h => h) (by rfl) (by assumption) ?_ ?_
        rotate_left
        · (intro w hSw; (try dsimp only at hSw); go_simp <;> with_reducible rfl)
        simp only [Act.put, List.setIfInBounds_toArray, List.set_cons_zero, List.set_cons_succ]
        refine takeVal 6 (some 23) ?_ rfl (by kernel_rfl) (by kernel_rfl) (by kernel_rfl) rfl (fun _ _ _ h => h) (by rfl) (by assumption) ?_ ?_
        rotate_left
        · (intro w hSw; (try dsimp only at hSw); go_simp <;> with_reducible rfl)
        simp only [Act.put, List.setIfInBounds_toArray, List.set_cons_zero, List.set_cons_succ]
        refine takeVal 7 (some 24) ?_ rfl (by kernel_rfl) (by kernel_rfl) (by kernel_rfl) rfl (fun _ _ _ h => h) (by rfl) (by assumption) ?_ ?_
        rotate_left
        · (intro w hSw; (try dsimp only at hSw); go_simp <;> with_reducible rfl)
        simp only [Act.put, List.setIfInBounds_toArray, List.set_cons_zero, List.set_cons_succ]
        refine wpAnyH_ready (rs := [8]) (by kernel_rfl) (by simp) ?_
        refine AllReadyH.cons rfl (fun K hK => ?_) AllReadyH.nil
        go_simp
        refine (unhide HE wr.drew).mono ?_
        rintro e w1 ⟨rfl, hb1⟩
        go_wp2_with fail
        refine hK.out _ _ (⟨g_cell (w := wr.drew) hb1 hHeld.1, g_cell (w := wr.drew) hb1 hHeld.2.1, g_cell (w := wr.drew) hb1 hHeld.2.2.1, g_cell (w := wr.drew) hb1 hHeld.2.2.2⟩) (fun hHeld2 => ?_)
        clear hK K hHeld
        have hHeld := hHeld2; clear hHeld2
        try simp only [Act.put, List.setIfInBounds_toArray, List.set_cons_zero, List.set_cons_succ]
        refine takeVal 9 (some 26) ?_ rfl (by kernel_rfl) (by kernel_rfl) (by kernel_rfl) rfl (fun _ _ _ h => h) (by rfl) (by assumption) ?_ ?_
        rotate_left
        · (intro w hSw; (try dsimp only at hSw); go_simp <;> with_reducible rfl)
        simp only [Act.put, List.setIfInBounds_toArray, List.set_cons_zero, List.set_cons_succ]
        refine wpAnyH_done (by kernel_rfl) ?_ _
        go_wp2
        go_roundw
        case rel => exact ⟨k + 1, by omega, by go_num, below2 hbel.drew hb1⟩
        case measure => simp [intOf]; omega
      · go_wp2
        go_ret
        exact ⟨rfl, hbel⟩

set_option maxHeartbeats 1000000 in
set_option maxRecDepth 100000 in
theorem markRangeS_any (l : List Rg) (v : Value) (B k0 : Nat) (w : World) (hs : l.length ≤ 1048576) (hk1 : k0 ≤ 100000000) (h : OwnR B w v l) :
    Calls Tryz.prog 31 #[v, .int .i64 (k0 : Int)] w fun e w' => e = .returned (.int .i64 ((k0 + l.length * 2 : Nat) : Int)) ∧ OwnR B w' v (marksR k0 l.length) ∧ w.grownBy w' v.ownBlock := by
  unfold OwnR at h ⊢
  rw [marksR_length]
  obtain ⟨n, hn⟩ : ∃ n, n = l.length := ⟨_, rfl⟩
  have HN := hide hn
  rw [← hn] at h hs ⊢
  clear hn
  rcases h.2 with ⟨rfl, hz⟩ | ⟨g, cap, cur, rfl, hbg, hh, hrest⟩
  · subst hz
    have hl : l = [] := List.eq_nil_of_length_eq_zero (unhide HN).symm
    subst hl
    go_enter Tryz.func31, Tryz.ntmps31
    go_wp2
    refine wp_loop_rounds 1 ?_
    rw [rounds_succ]
    go_wp2
    go_ret
    exact ⟨by simp, h, g_self _ _⟩
  · clear hh hrest
    have H0 := hide h
    clear h
    go_enter Tryz.func31, Tryz.ntmps31
    go_wp2
    go_loopw [1, 5] (fun m i wr => ∃ (k K : Nat), k ≤ n ∧ K = k0 + k * 2 ∧ i = .int .i64 k ∧ m = .int .i64 (K : Int) ∧ wr.ownsRow B 87 2 (.slice (some ⟨g, 0, none⟩) n cap) n (rgs (markedR k0 l k)) ∧ w.grownBy wr (some g)) (fun _ i _ => n - (intOf i).toNat)
    case atStart => exact ⟨0, k0, Nat.zero_le _, by simp, rfl, rfl, by rw [markedR_zero]; exact unhide H0, g_self _ _⟩
    case round =>
      obtain ⟨k, K, hk, hK, rfl, rfl, hown, hgr⟩ := hrel
      by_cases hlt : k < n
      · have hkl : k < l.length := by have := unhide HN; omega
        have hset := hide (markedR_set (k0 := k0) hkl)
        have hlen := hide (markedR_length (k0 := k0) (l := l) (i := k) (by omega))
        have hKb : K ≤ 200000000 := by omega
        obtain ⟨y0, d0⟩ := g_some hown (j := k * 2) (by omega)
        obtain ⟨y1, d1⟩ := g_some hown (j := k * 2 + 1) (by omega)
        have f0 := hown.frozenAt (k * 2)
        have f1 := hown.frozenAt (k * 2 + 1)
        have s0 := hown.stored (k * 2) (.int .i64 (K : Int))
        have s1 := s0.1.stored (k * 2 + 1) (.int .i64 ((K : Int) + 1))
        have e1 : ((rgs (markedR k0 l k)).set (k * 2) (.int .i64 (K : Int))).set (k * 2 + 1) (.int .i64 ((K : Int) + 1)) = rgs (markedR k0 l (k + 1)) := by
          rw [← unhide hset, hK]
          exact rgs_set _ k (mkR (k0 + k * 2)) (by rw [unhide hlen]; exact hkl)
        rw [e1] at s1
        have S1 := hide s1.1
        have G1 := hide (g_store (j := k * 2 + 1) (g_store (j := k * 2) hgr (.int .i64 (K : Int))) (.int .i64 ((K : Int) + 1)))
        have HK := hide hK
        clear hown hgr s0 s1 e1 hK
        go_wp2
        go_roundw
        case rel => exact ⟨k + 1, K + 2, by omega, by have := unhide HK; omega, by go_num, by go_num, unhide S1, unhide G1⟩
        case measure => simp [intOf]; omega
      · have e : k = n := by omega
        subst e
        have HK := hide hK
        clear hK
        have hown' : wr.ownsRow B 87 2 (.slice (some ⟨g, 0, none⟩) k cap) k (rgs (marksR k0 k)) := by
          have e2 : markedR k0 l k = marksR k0 k := by rw [unhide HN]; exact markedR_all
          rw [e2] at hown
          exact hown
        have OO := hide hown'
        have GG := hide hgr
        clear hown hown' hgr
        go_wp2
        go_ret
        exact ⟨by rw [← unhide HK]; rfl, unhide OO, unhide GG⟩

set_option maxHeartbeats 1000000 in
set_option maxRecDepth 100000 in
theorem heldRangeS_any (n : Nat) (v : Value) (B k0 : Nat) (w : World) (hs : n ≤ 1048576) (hk1 : k0 ≤ 100000000) (h : OwnR B w v (marksR k0 n)) :
    Calls Tryz.prog 32 #[v, .int .i64 (k0 : Int)] w fun e w' => e = .returned (.int .i64 ((k0 + n * 2 : Nat) : Int)) ∧ w' = w := by
  unfold OwnR at h
  rw [marksR_length] at h
  rcases h.2 with ⟨rfl, hz⟩ | ⟨g, cap, cur, rfl, hbg, hh, hrest⟩
  · subst hz
    go_enter Tryz.func32, Tryz.ntmps32
    go_wp2
    refine wp_loop_rounds 1 ?_
    rw [rounds_succ]
    go_wp2
    go_ret
    exact ⟨by simp, rfl⟩
  · have C := hide (fun (k : Nat) (hk : k < n) => rg_cells h (marksR_get (k0 := k0) hk) hk)
    clear hh hrest h
    go_enter Tryz.func32, Tryz.ntmps32
    go_wp2
    go_loop [1, 5] (fun m i => ∃ (k K : Nat), k ≤ n ∧ K = k0 + k * 2 ∧ i = .int .i64 k ∧ m = .int .i64 (K : Int)) (fun _ i => n - (intOf i).toNat)
    case atStart => exact ⟨0, k0, Nat.zero_le _, by simp, rfl, rfl⟩
    case round =>
      obtain ⟨k, K, hk, hK, rfl, rfl⟩ := hrel
      by_cases hlt : k < n
      · obtain ⟨c0, c1⟩ := unhide C k hlt
        rw [← hK] at c0 c1
        simp only [mkR] at c0 c1
        have hKb : K ≤ 200000000 := by omega
        have HK := hide hK
        clear hK
        go_wp2
        go_round
        case rel => exact ⟨k + 1, K + 2, by omega, by have := unhide HK; omega, by go_num, by go_num⟩
        case measure => simp [intOf]; omega
      · have e : k = n := by omega
        subst e
        have HK := hide hK
        clear hK
        go_wp2
        go_ret
        exact ⟨by rw [show (k0 : Int) + (k : Int) * 2 = (K : Int) from by have := unhide HK; omega]; rfl, rfl⟩
end Go.Proofs.YtocaljbimhjmgaaGreatDoor

namespace Go.Proofs.YtocaljbimhjmgaaGreatDoor
open Go.RowKit Go.ChangeShapes Go.WideShapes Go.ChangeAt Go.Deep
open Plain
set_option linter.unusedVariables false
set_option linter.unusedSimpArgs false

namespace Plain
structure Ed where
  kind : Int
  box : ByteArray
  dst : ByteArray
  set : List Rg
  how : Int
  bits : Int
  since : Int
  text : ByteArray
/-- None of it is too long. -/
structure SmallEd (L : Nat) (e : Ed) : Prop where
  box : e.box.size ≤ L
  dst : e.dst.size ≤ L
  set : e.set.length ≤ L
  text : e.text.size ≤ L
end Plain
abbrev edV (e : Ed) (v : Value) : Value := .agg #[.int .i64 e.kind, .string e.box, .string e.dst, v, .int .i64 e.how, .int .i64 e.bits, .int .i64 e.since, .string e.text]
/-- An edit that came in. -/
structure ArgEd (B : Nat) (w : World) (a : Option Addr) (e : Ed) : Prop where
  box : e.box.size ≤ maxLen
  dst : e.dst.size ≤ maxLen
  text : e.text.size ≤ maxLen
  m : e.set.length ≤ maxLen
  set : ArgR B w a e.set
theorem ArgEd.up {w w' : World} {a : Option Addr} {e : Ed} (h : ArgEd w.heap.size w a e) (hb : Below w.heap.size w w') : ArgEd w'.heap.size w' a e := ⟨h.box, h.dst, h.text, h.m, h.set.up hb⟩
set_option maxHeartbeats 4000000 in
set_option maxRecDepth 100000 in
theorem eqEdit_same (e : Ed) (v1 v2 : Value) (B1 B2 : Nat) (w : World) (hs : e.set.length ≤ 1048576) (h1 : OwnR B1 w v1 e.set) (h2 : OwnR B2 w v2 e.set) :
    Calls Tryz.prog 10 #[edV e v1, edV e v2] w fun x w' => x = .returned (.bool true) ∧ Below w.heap.size w w' := by
  obtain ⟨r1, c1, rfl⟩ := g_shape h1
  obtain ⟨r2, c2, rfl⟩ := g_shape h2
  have O1 := hide h1
  have O2 := hide h2
  clear h1 h2
  have BB := hide (Below.refl w.heap.size w)
  obtain ⟨wq1, hA⟩ : ∃ X, X = w.alloc (.cells ([.int .i64 e.kind, .string e.box, .string e.dst, .slice r1 e.set.length c1, .int .i64 e.how, .int .i64 e.bits, .int .i64 e.since, .string e.text] : List Value).toArray 32) := ⟨_, rfl⟩
  have Ax : HasObj wq1 w.heap.size 32 [.int .i64 e.kind, .string e.box, .string e.dst, .slice r1 e.set.length c1, .int .i64 e.how, .int .i64 e.bits, .int .i64 e.since, .string e.text] := by rw [hA]; exact HasObj.new _ _ _
  have hbn : Below w.heap.size w wq1 := by rw [hA]; exact (Below.refl _ _).alloc (Nat.le_refl _) _
  have loA : w.heap.size ≤ w.heap.size := (unhide BB).size
  have EA := hA.symm
  clear hA
  have O1_ := hide ((unhide O1).up hbn)
  clear O1
  have O1 := O1_
  clear O1_
  have O2_ := hide ((unhide O2).up hbn)
  clear O2
  have O2 := O2_
  clear O2_
  have sz1 := hide (hbn.size)
  have BB_ := hide (below_y (unhide BB) hbn)
  clear BB
  have BB := BB_
  clear BB_
  clear hbn
  have A := hide Ax
  clear Ax
  obtain ⟨wq2, hD⟩ : ∃ X, X = wq1.alloc (.cells ([.int .i64 e.kind, .string e.box, .string e.dst, .slice r2 e.set.length c2, .int .i64 e.how, .int .i64 e.bits, .int .i64 e.since, .string e.text] : List Value).toArray 32) := ⟨_, rfl⟩
  have Dx : HasObj wq2 wq1.heap.size 32 [.int .i64 e.kind, .string e.box, .string e.dst, .slice r2 e.set.length c2, .int .i64 e.how, .int .i64 e.bits, .int .i64 e.since, .string e.text] := by rw [hD]; exact HasObj.new _ _ _
  have hbn : Below wq1.heap.size wq1 wq2 := by rw [hD]; exact (Below.refl _ _).alloc (Nat.le_refl _) _
  have neAD : w.heap.size ≠ wq1.heap.size := Nat.ne_of_lt (unhide A).lt
  have loD : w.heap.size ≤ wq1.heap.size := (unhide BB).size
  have ED := hD.symm
  clear hD
  have A_ := hide ((unhide A).ups hbn)
  clear A
  have A := A_
  clear A_
  have O1_ := hide ((unhide O1).up hbn)
  clear O1
  have O1 := O1_
  clear O1_
  have O2_ := hide ((unhide O2).up hbn)
  clear O2
  have O2 := O2_
  clear O2_
  have sz2 := hide (hbn.size)
  have BB_ := hide (below_y (unhide BB) hbn)
  clear BB
  have BB := BB_
  clear BB_
  clear hbn
  have D := hide Dx
  clear Dx
  have Ac0_1 := (unhide A).cell 0 rfl
  have Ac1_1 := (unhide A).cell 1 rfl
  have Ac2_1 := (unhide A).cell 2 rfl
  have Ac3_1 := (unhide A).cell 3 rfl
  have Ac4_1 := (unhide A).cell 4 rfl
  have Ac5_1 := (unhide A).cell 5 rfl
  have Ac6_1 := (unhide A).cell 6 rfl
  have Ac7_1 := (unhide A).cell 7 rfl
  have Dc0_2 := (unhide D).cell 0 rfl
  have Dc1_2 := (unhide D).cell 1 rfl
  have Dc2_2 := (unhide D).cell 2 rfl
  have Dc3_2 := (unhide D).cell 3 rfl
  have Dc4_2 := (unhide D).cell 4 rfl
  have Dc5_2 := (unhide D).cell 5 rfl
  have Dc6_2 := (unhide D).cell 6 rfl
  have Dc7_2 := (unhide D).cell 7 rfl
  go_enter Tryz.func10, Tryz.ntmps10
  go_wp2_with fail
  clear Ac0_1 Ac1_1 Ac2_1 Ac3_1 Ac4_1 Ac5_1 Ac6_1 Ac7_1 Dc0_2 Dc1_2 Dc2_2 Dc3_2 Dc4_2 Dc5_2 Dc6_2 Dc7_2 EA ED
  refine (eqRangeS_same e.set _ _ _ _ _ hs (unhide O1) (unhide O2)).mono ?_
  rintro e wq3 ⟨rfl, hb⟩
  have A_ := hide ((unhide A).ups hb)
  clear A
  have A := A_
  clear A_
  have D_ := hide ((unhide D).ups hb)
  clear D
  have D := D_
  clear D_
  have O1_ := hide ((unhide O1).up hb)
  clear O1
  have O1 := O1_
  clear O1_
  have O2_ := hide ((unhide O2).up hb)
  clear O2
  have O2 := O2_
  clear O2_
  have sz3 := hide (hb.size)
  have BB_ := hide (below_y (unhide BB) hb)
  clear BB
  have BB := BB_
  clear BB_
  clear hb
  have Ac0_3 := (unhide A).cell 0 rfl
  have Ac1_3 := (unhide A).cell 1 rfl
  have Ac2_3 := (unhide A).cell 2 rfl
  have Ac3_3 := (unhide A).cell 3 rfl
  have Ac4_3 := (unhide A).cell 4 rfl
  have Ac5_3 := (unhide A).cell 5 rfl
  have Ac6_3 := (unhide A).cell 6 rfl
  have Ac7_3 := (unhide A).cell 7 rfl
  have Dc0_4 := (unhide D).cell 0 rfl
  have Dc1_4 := (unhide D).cell 1 rfl
  have Dc2_4 := (unhide D).cell 2 rfl
  have Dc3_4 := (unhide D).cell 3 rfl
  have Dc4_4 := (unhide D).cell 4 rfl
  have Dc5_4 := (unhide D).cell 5 rfl
  have Dc6_4 := (unhide D).cell 6 rfl
  have Dc7_4 := (unhide D).cell 7 rfl
  go_wp2
  go_ret
  exact ⟨rfl, unhide BB⟩
end Go.Proofs.YtocaljbimhjmgaaGreatDoor
