/- Rows of ranges that are the same; marks in a row of ranges. -/
import Derived.Test.YtgdihceikhkddaaDoorTv
import Derived.Test.YtgdihceikhkddaaDoorSetA
import Derived.Test.YtgdihceikhkddaaDoorRegA
namespace Go.Proofs.YtgdihceikhkddaaDoor
open Go.RowKit
open Plain
set_option linter.unusedVariables false

set_option maxHeartbeats 1000000 in
set_option maxRecDepth 100000 in
theorem eqRangeS_same (l : List Rg) (v1 v2 : Value) (B1 B2 : Nat) (w : World) (hs : l.length ≤ 1048576) (h1 : OwnR B1 w v1 l) (h2 : OwnR B2 w v2 l) :
  Calls Tryd.prog 17 #[v1, v2] w fun e w' => e = .returned (.bool true) ∧ Below w.heap.size w w' := by
 unfold OwnR at h1 h2
 obtain ⟨n, hn⟩ : ∃ n, n = l.length := ⟨_, rfl⟩
 rw [← hn] at h1 h2 hs
 by_cases hz : n = 0
 ·obtain ⟨a1, c1, rfl⟩ := g_shape h1
  obtain ⟨a2, c2, rfl⟩ := g_shape h2
  clear h1 h2 hn
  subst hz
  go_enter Tryd.func17, Tryd.ntmps17
  go_wp2
  refine wp_loop_rounds 1 ?_
  rw [rounds_succ]
  go_wp2
  go_ret
  exact ⟨rfl, Below.refl _ _⟩
 ·rcases h1.2 with ⟨_, h10⟩ | ⟨g1, c1, cur1, rfl, hb1, hh1, _⟩
  ·exact absurd h10 hz
  rcases h2.2 with ⟨_, h20⟩ | ⟨g2, c2, cur2, rfl, hb2, hh2, _⟩
  ·exact absurd h20 hz
  have hl1 : g1 < w.heap.size := (h1.lt _ rfl).2
  have hl2 : g2 < w.heap.size := (h2.lt _ rfl).2
  have C1 := hide (fun (k : Nat) (f : Rg) (hx : l[k]? = some f) (hk : k < n) => rg_cells h1 hx hk)
  have C2 := hide (fun (k : Nat) (f : Rg) (hx : l[k]? = some f) (hk : k < n) => rg_cells h2 hx hk)
  have HN := hide hn; clear h1 h2 hh1 hh2 hn
  go_enter Tryd.func17, Tryd.ntmps17
  go_wp2
  go_loopw [5] (fun i wr => ∃ k : Nat, k ≤ n ∧ i = .int .i64 k ∧ Below w.heap.size w wr) (fun i _ => n - (intOf i).toNat)
  case atStart => exact ⟨0, Nat.zero_le _, rfl, Below.refl _ _⟩
  case round =>
   obtain ⟨k, hk, rfl, hbel⟩ := hrel
   by_cases hlt : k < n
   ·have hkl : k < l.length := by rw [← uh HN]; exact hlt
    obtain ⟨c0, c1'⟩ := uh C1 k l[k] (List.getElem?_eq_getElem hkl) hlt
    obtain ⟨d0, d1⟩ := uh C2 k l[k] (List.getElem?_eq_getElem hkl) hlt
    generalize l[k] = f at *
    obtain ⟨fl, fh⟩ := f
    simp only at c0 c1' d0 d1
    have HE := hide (fun wx => (eqRange_same ⟨fl, fh⟩ wx : Calls Tryd.prog 32 #[.agg #[.int .i64 fl, .int .i64 fh], .agg #[.int .i64 fl, .int .i64 fh]] wx fun e w' => e = .returned (.bool true) ∧ Below wx.heap.size wx w'))
    rw [← hbel.cell (p := ⟨g1, _, none⟩) hl1] at c0 c1'
    rw [← hbel.cell (p := ⟨g2, _, none⟩) hl2] at d0 d1
    have hr1 : g1 < wr.heap.size := Nat.lt_of_lt_of_le hl1 hbel.size
    have hr2 : g2 < wr.heap.size := Nat.lt_of_lt_of_le hl2 hbel.size
    have hik : (0 : Int) ≤ (k : Int) := by omega
    have hil : (k : Int) < (n : Int) := by omega
    go_wp2
    refine wp_region_held_drew (S := fun w' => w'.cell? ⟨g1, k * 2, none⟩ = some (.int .i64 fl) ∧ w'.cell? ⟨g1, k * 2 + 1, none⟩ = some (.int .i64 fh) ∧ w'.cell? ⟨g2, k * 2, none⟩ = some (.int .i64 fl) ∧ w'.cell? ⟨g2, k * 2 + 1, none⟩ = some (.int .i64 fh)) (by kernel_rfl) (⟨c0, c1', d0, d1⟩) (fun hHeld => ?_)
    refine tv 0 17 ?_; refine tv 1 18 ?_; refine tv 2 19 ?_; refine tv 3 20 ?_; refine tv 4 21 ?_; refine tv 5 22 ?_; refine tv 6 23 ?_; refine tv 7 24 ?_
    refine wpAnyH_ready (rs := [8]) (by kernel_rfl) (by simp) ?_
    refine AllReadyH.cons rfl (fun K hK => ?_) AllReadyH.nil
    go_simp
    refine (uh HE wr.drew).mono ?_
    rintro e w1 ⟨rfl, hb1⟩
    go_wp2_with fail
    refine hK.out _ _ (⟨g_cell (w := wr.drew) hb1 hHeld.1, g_cell (w := wr.drew) hb1 hHeld.2.1, g_cell (w := wr.drew) hb1 hHeld.2.2.1, g_cell (w := wr.drew) hb1 hHeld.2.2.2⟩) (fun hHeld2 => ?_)
    clear hK K hHeld; have hHeld := hHeld2; clear hHeld2
    try simp only [Act.put, p1, p2, p3]
    refine tv 9 26 ?_
    refine wpAnyH_done (by kernel_rfl) ?_ _
    go_wp2
    go_roundw
    case rel => exact ⟨k + 1, by omega, by go_num, below2 hbel.drew hb1⟩
    case measure => simp [intOf]; omega
   ·go_wp2
    go_ret
    exact ⟨rfl, hbel⟩

end Go.Proofs.YtgdihceikhkddaaDoor
