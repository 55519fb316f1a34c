/- Rows of Seens that are the same; marks in them. Made by gen_rows.py. -/
import Derived.Test.YtgdndjpiiahljaaTv
import Derived.Test.YtgdndjpiiahljaaSeenRow
namespace Go.Proofs.Ytgdndjpiiahljaa
open Go.RowKit
open Plain
set_option linter.unusedVariables false

namespace Plain
def mkSn (K : Nat) : Sn := ⟨(K : Int), (K : Int) + 1, (K : Int) + 1 + 1⟩
end Plain
set_option maxHeartbeats 1000000 in
set_option maxRecDepth 100000 in
theorem eqSeenS_same (l : List Sn) (v1 v2 : Value) (B1 B2 : Nat) (w : World) (hs : l.length ≤ 1048576) (h1 : OwnSn B1 w v1 l) (h2 : OwnSn B2 w v2 l) :
  Calls Try.prog 19 #[v1, v2] w fun e w' => e = .returned (.bool true) ∧ Below w.heap.size w w' := by
 unfold OwnSn at h1 h2
 obtain ⟨n, hn⟩ : ∃ n, n = l.length := ⟨_, rfl⟩
 rw [← hn] at h1 h2 hs
 by_cases hz : n = 0
 ·obtain ⟨a1, c1, rfl⟩ := g_shape h1
  obtain ⟨a2, c2, rfl⟩ := g_shape h2
  clear h1 h2 hn
  subst hz
  go_enter Try.func19, Try.ntmps19
  go_wp2
  refine wp_loop_rounds 1 ?_
  rw [rounds_succ]
  go_wp2
  go_ret
  exact ⟨rfl, Below.refl _ _⟩
 ·rcases h1.2 with ⟨_, h10⟩ | ⟨g1, c1, cur1, rfl, hb1, hh1, _⟩
  ·exact absurd h10 hz
  rcases h2.2 with ⟨_, h20⟩ | ⟨g2, c2, cur2, rfl, hb2, hh2, _⟩
  ·exact absurd h20 hz
  have hl1 : g1 < w.heap.size := (h1.lt _ rfl).2
  have hl2 : g2 < w.heap.size := (h2.lt _ rfl).2
  have C1 := hide (fun (k : Nat) (f : Sn) (hx : l[k]? = some f) (hk : k < n) => sn_cells h1 hx hk)
  have C2 := hide (fun (k : Nat) (f : Sn) (hx : l[k]? = some f) (hk : k < n) => sn_cells h2 hx hk)
  have HN := hide hn; clear h1 h2 hh1 hh2 hn
  go_enter Try.func19, Try.ntmps19
  go_wp2
  go_loopw [5] (fun i wr => ∃ k : Nat, k ≤ n ∧ i = .int .i64 k ∧ Below w.heap.size w wr) (fun i _ => n - (intOf i).toNat)
  case atStart => exact ⟨0, Nat.zero_le _, rfl, Below.refl _ _⟩
  case round =>
   obtain ⟨k, hk, rfl, hbel⟩ := hrel
   by_cases hlt : k < n
   ·have hkl : k < l.length := by rw [← uh HN]; exact hlt
    obtain ⟨c0, c1, c2⟩ := uh C1 k l[k] (List.getElem?_eq_getElem hkl) hlt
    obtain ⟨d0, d1, d2⟩ := uh C2 k l[k] (List.getElem?_eq_getElem hkl) hlt
    generalize l[k] = f at *
    obtain ⟨uid, flags, mod⟩ := f
    simp only at c0 c1 c2 d0 d1 d2
    have HE := hide (fun wx => eqSeen_same uid flags mod wx)
    rw [← hbel.cell (p := ⟨g1, _, none⟩) hl1] at c0 c1 c2
    rw [← hbel.cell (p := ⟨g2, _, none⟩) hl2] at d0 d1 d2
    have hr1 : g1 < wr.heap.size := Nat.lt_of_lt_of_le hl1 hbel.size
    have hr2 : g2 < wr.heap.size := Nat.lt_of_lt_of_le hl2 hbel.size
    have hik : (0 : Int) ≤ (k : Int) := by omega
    have hil : (k : Int) < (n : Int) := by omega
    go_wp2
    refine wp_region_held_drew (S := fun w' => w'.cell? ⟨g1, k * 3, none⟩ = some (.int .i64 uid) ∧ w'.cell? ⟨g1, k * 3 + 1, none⟩ = some (.int .i64 flags) ∧ w'.cell? ⟨g1, k * 3 + 2, none⟩ = some (.int .i64 mod) ∧ w'.cell? ⟨g2, k * 3, none⟩ = some (.int .i64 uid) ∧ w'.cell? ⟨g2, k * 3 + 1, none⟩ = some (.int .i64 flags) ∧ w'.cell? ⟨g2, k * 3 + 2, none⟩ = some (.int .i64 mod)) (by kernel_rfl) (⟨c0, c1, c2, d0, d1, d2⟩) (fun hHeld => ?_)
    refine tv 0 17 ?_; refine tv 1 18 ?_; refine tv 2 19 ?_; refine tv 3 20 ?_; refine tv 4 21 ?_; refine tv 5 22 ?_; refine tv 6 23 ?_; refine tv 7 24 ?_
    refine wpAnyH_ready (rs := [8]) (by kernel_rfl) (by simp) ?_
    refine AllReadyH.cons rfl (fun K hK => ?_) AllReadyH.nil
    go_simp
    refine (uh HE wr.drew).mono ?_
    rintro e w1 ⟨rfl, hb1⟩
    go_wp2_with fail
    refine hK.out _ _ (⟨g_cell (w := wr.drew) hb1 hHeld.1, g_cell (w := wr.drew) hb1 hHeld.2.1, g_cell (w := wr.drew) hb1 hHeld.2.2.1, g_cell (w := wr.drew) hb1 hHeld.2.2.2.1, g_cell (w := wr.drew) hb1 hHeld.2.2.2.2.1, g_cell (w := wr.drew) hb1 hHeld.2.2.2.2.2⟩) (fun hHeld2 => ?_)
    clear hK K hHeld; have hHeld := hHeld2; clear hHeld2
    try simp only [Act.put, p1, p2, p3]
    refine tv 9 26 ?_
    refine wpAnyH_done (by kernel_rfl) ?_ _
    go_wp2
    go_roundw
    case rel => exact ⟨k + 1, by omega, by go_num, below2 hbel.drew hb1⟩
    case measure => simp [intOf]; omega
   ·go_wp2
    go_ret
    exact ⟨rfl, hbel⟩

set_option maxHeartbeats 2000000 in
set_option maxRecDepth 100000 in
theorem markSeenS_any (l : List Sn) (v : Value) (B k0 : Nat) (w : World) (hs : l.length ≤ 1048576) (hk0 : 1 ≤ k0) (hk1 : k0 ≤ 100000000) (h : OwnSn B w v l) :
  Calls Try.prog 20 #[v, .int .i64 (k0 : Int)] w fun e w' => e = .returned (.int .i64 ((k0 + l.length * 3 : Nat) : Int)) ∧ OwnSn B w' v (marksK mkSn 3 k0 l.length) ∧ w.grownBy w' v.ownBlock := by
 unfold OwnSn at h ⊢
 rw [marksK_len]
 obtain ⟨n, hn⟩ : ∃ n, n = l.length := ⟨_, rfl⟩
 have HN := hide hn
 rw [← hn] at h hs ⊢
 clear hn
 rcases h.2 with ⟨rfl, hz⟩ | ⟨g, cap, cur, rfl, hbg, hh, hrest⟩
 ·subst hz
  have hl : l = [] := List.eq_nil_of_length_eq_zero (uh HN).symm
  subst hl
  go_enter Try.func20, Try.ntmps20
  go_wp2
  refine wp_loop_rounds 1 ?_
  rw [rounds_succ]
  go_wp2
  go_ret
  exact ⟨by simp, h, g_self _ _⟩
 ·clear hh hrest
  have H0 := hide h; clear h
  go_enter Try.func20, Try.ntmps20
  go_wp2
  go_loopw [1, 5] (fun m i wr => ∃ (k K : Nat), k ≤ n ∧ K = k0 + k * 3 ∧ i = .int .i64 k ∧ m = .int .i64 (K : Int) ∧ wr.ownsRow B 34 3 (.slice (some ⟨g, 0, none⟩) n cap) n (rowC snC (markedK mkSn 3 k0 l k)) ∧ w.grownBy wr (some g)) (fun _ i _ => n - (intOf i).toNat)
  case atStart => exact ⟨0, k0, Nat.zero_le _, by simp, rfl, rfl, by rw [markedK_zero]; exact uh H0, g_self _ _⟩
  case round =>
   obtain ⟨k, K, hk, hK, rfl, rfl, hown, hgr⟩ := hrel
   by_cases hlt : k < n
   ·have hkl : k < l.length := by have := uh HN; omega
    have hset := hide (markedK_set mkSn 3 k0 hkl); have hget := markedK_at mkSn 3 k0 hkl
    have hKb : K ≤ 200000000 := by omega
    have hK0 : 1 ≤ K := by omega
    generalize l[k] = f at *
    rw [← hK] at hset
    have HK := hide hK; clear hK
    obtain ⟨y0, d0⟩ := g_some hown (j := k * 3) (by omega)
    have f0 := hown.frozenAt (k * 3)
    obtain ⟨y1, d1⟩ := g_some hown (j := k * 3 + 1) (by omega)
    have f1 := hown.frozenAt (k * 3 + 1)
    obtain ⟨y2, d2⟩ := g_some hown (j := k * 3 + 2) (by omega)
    have f2 := hown.frozenAt (k * 3 + 2); have s0 := hown.stored (k * 3) (.int .i64 ((K : Int)))
    have r0 : (rowC snC (markedK mkSn 3 k0 l k)).set (k * 3) (.int .i64 ((K : Int))) = rowC snC ((markedK mkSn 3 k0 l k).set k (⟨(K : Int), f.flags, f.mod⟩ : Sn)) := rowC_set snC_len hget (j := 0) (by decide) (⟨(K : Int), f.flags, f.mod⟩ : Sn) (.int .i64 ((K : Int))) rfl
    rw [r0] at s0
    clear r0; have g10 := g_store (j := k * 3) hgr (.int .i64 ((K : Int))); have s1 := s0.1.stored (k * 3 + 1) (.int .i64 ((K : Int) + 1))
    rw [rowC_set2 snC_len hget (⟨(K : Int), f.flags, f.mod⟩ : Sn) (j := 1) (by decide) (⟨(K : Int), (K : Int) + 1, f.mod⟩ : Sn) (.int .i64 ((K : Int) + 1)) rfl] at s1
    have g11 := g_store (j := k * 3 + 1) g10 (.int .i64 ((K : Int) + 1)); have s2 := s1.1.stored (k * 3 + 2) (.int .i64 ((K : Int) + 1 + 1))
    rw [rowC_set2 snC_len hget (⟨(K : Int), (K : Int) + 1, f.mod⟩ : Sn) (j := 2) (by decide) (⟨(K : Int), (K : Int) + 1, (K : Int) + 1 + 1⟩ : Sn) (.int .i64 ((K : Int) + 1 + 1)) rfl] at s2
    have g12 := g_store (j := k * 3 + 2) g11 (.int .i64 ((K : Int) + 1 + 1)); have SZ := hide s2.1; have GZ := hide g12
    rw [show (⟨(K : Int), (K : Int) + 1, (K : Int) + 1 + 1⟩ : Sn) = mkSn K from rfl, uh hset] at SZ
    clear hget hown hgr s0 g10 s1 g11 s2 g12
    go_wp2
    go_roundw
    case rel => exact ⟨k + 1, K + 3, by omega, by have := uh HK; omega, by go_num, by go_num, uh SZ, uh GZ⟩
    case measure => simp [intOf]; omega
   ·have e : k = n := by omega
    subst e
    have HK := hide hK; clear hK
    have hown' : wr.ownsRow B 34 3 (.slice (some ⟨g, 0, none⟩) k cap) k (rowC snC (marksK mkSn 3 k0 k)) := by
     have e2 : markedK mkSn 3 k0 l k = marksK mkSn 3 k0 k := by rw [uh HN]; exact markedK_all _ _ _ _
     rw [e2] at hown
     exact hown
    have OO := hide hown'; have GG := hide hgr; clear hown hown' hgr
    go_wp2
    go_ret
    exact ⟨by rw [← uh HK]; rfl, uh OO, uh GG⟩

set_option maxHeartbeats 1000000 in
set_option maxRecDepth 100000 in
theorem heldSeenS_any (n : Nat) (v : Value) (B k0 : Nat) (w : World) (hs : n ≤ 1048576) (hk0 : 1 ≤ k0) (hk1 : k0 ≤ 100000000) (h : OwnSn B w v (marksK mkSn 3 k0 n)) :
  Calls Try.prog 22 #[v, .int .i64 (k0 : Int)] w fun e w' => e = .returned (.int .i64 ((k0 + n * 3 : Nat) : Int)) ∧ Below w.heap.size w w' := by
 unfold OwnSn at h
 rw [marksK_len] at h
 rcases h.2 with ⟨rfl, hz⟩ | ⟨g, cap, cur, rfl, hbg, hh, hrest⟩
 ·subst hz
  go_enter Try.func22, Try.ntmps22
  go_wp2
  refine wp_loop_rounds 1 ?_
  rw [rounds_succ]
  go_wp2
  go_ret
  exact ⟨by simp, Below.refl _ _⟩
 ·have C := hide (fun (k : Nat) (hk : k < n) => sn_cells h (marksK_get (k0 := k0) hk) hk)
  clear hh hrest h
  go_enter Try.func22, Try.ntmps22
  go_wp2
  go_loop [1, 5] (fun m i => ∃ (k K : Nat), k ≤ n ∧ K = k0 + k * 3 ∧ i = .int .i64 k ∧ m = .int .i64 (K : Int)) (fun _ i => n - (intOf i).toNat)
  case atStart => exact ⟨0, k0, Nat.zero_le _, by simp, rfl, rfl⟩
  case round =>
   obtain ⟨k, K, hk, hK, rfl, rfl⟩ := hrel
   by_cases hlt : k < n
   ·obtain ⟨c0, c1, c2⟩ := uh C k hlt
    rw [← hK] at c0 c1 c2
    simp only [mkSn] at c0 c1 c2
    have hKb : K ≤ 200000000 := by omega
    have HK := hide hK; clear hK
    go_wp2
    go_round
    case rel => exact ⟨k + 1, K + 3, by omega, by have := uh HK; omega, by go_num, by go_num⟩
    case measure => simp [intOf]; omega
   ·have e : k = n := by omega
    subst e
    have HK := hide hK; clear hK
    go_wp2
    go_ret
    exact ⟨by rw [show (k0 : Int) + (k : Int) * 3 = (K : Int) from by have := uh HK; omega]; rfl, Below.refl _ _⟩
end Go.Proofs.Ytgdndjpiiahljaa
