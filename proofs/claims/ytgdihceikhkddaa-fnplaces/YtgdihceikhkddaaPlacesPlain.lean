/- What goes at a place, plainly; two rows of one list are the same. Made by gen_fnplaces.py. -/
import Derived.Test.YtgdihceikhkddaaTv
import Derived.Test.YtgdihceikhkddaaTkPlain
import Derived.Test.YtgdihceikhkddaaSeenMarks
import Derived.Test.YtgdihceikhkddaaFlagRows
namespace Go.Proofs.Ytgdihceikhkddaa
open Go.RowKit Go.ChangeShapes Go.WideShapes Go.ChangeAt Go.Deep
open Plain
set_option linter.unusedVariables false
set_option linter.unusedSimpArgs false

namespace Plain
theorem in_place {l : List Sn} {k : Nat} (h : k < l.length) : inI ((k : Int) + 1) 1 l.length = true := by
 unfold inI; simp; omega
theorem take_gone {l : List Sn} {k : Nat} (h : k < l.length) : takeL l 2 ((k : Int) + 1) 0 0 0 = l.take k ++ l.drop (k + 1) := by
 unfold takeL
 rw [if_neg (by decide), if_pos rfl, if_pos (in_place h)]
 rw [show ((k : Int) + 1).toNat = k + 1 by omega, Nat.add_sub_cancel]
theorem take_told {l : List Sn} {k : Nat} (h : k < l.length) : takeL l 3 ((k : Int) + 1) 77 3 5 = l.set k ⟨77, 3, 5⟩ := by
 unfold takeL
 rw [if_neg (by decide), if_neg (by decide), if_pos rfl, if_pos (in_place h)]
 rw [show ((k : Int) + 1).toNat = k + 1 by omega, Nat.add_sub_cancel, List.set_eq_take_append_cons_drop, if_pos h]
 rfl
theorem take_more {l : List Sn} (h : l.length ≤ 6) : takeL l 1 ((l.length : Int) + 2) 0 0 0 = l ++ List.replicate 2 sn0 := by
 unfold takeL
 rw [if_pos rfl, if_pos (by unfold inI; simp; omega)]
 rw [show ((l.length : Int) + 2).toNat = l.length + 2 by omega, List.take_of_length_le (by omega), Nat.add_sub_cancel_left]
theorem take_bye (l : List Sn) : takeL l 9 0 0 0 0 = [] := by
 unfold takeL
 rw [if_neg (by decide), if_neg (by decide), if_neg (by decide), if_pos rfl]
theorem gone_len {l : List Sn} {k : Nat} (h : k < l.length) : (l.take k ++ l.drop (k + 1)).length = l.length - 1 := by simp; omega
theorem gone_at {l : List Sn} {k j : Nat} {x : Sn} (h : j < k) (hx : l[j]? = some x) : (l.take k ++ l.drop (k + 1))[j]? = some x := by
 have hj := (List.getElem?_eq_some_iff.1 hx).1
 rw [List.getElem?_append_left (by simp; omega), List.getElem?_take_of_lt h]; exact hx
theorem gone_past {l : List Sn} {k i : Nat} {x : Sn} (hk : k < l.length) (h : k ≤ i) (hx : l[i + 1]? = some x) : (l.take k ++ l.drop (k + 1))[i]? = some x := by
 rw [List.getElem?_append_right (by simp; omega), List.getElem?_drop, List.length_take, Nat.min_eq_left (by omega), show k + 1 + (i - k) = i + 1 by omega]; exact hx
theorem told_at {l : List Sn} {k j : Nat} {x y : Sn} (h : j ≠ k) (hx : l[j]? = some x) : (l.set k y)[j]? = some x := by
 rw [List.getElem?_set_ne (fun e => h e.symm)]; exact hx
theorem told_here {l : List Sn} {k : Nat} {y : Sn} (h : k < l.length) : (l.set k y)[k]? = some y := by
 rw [List.getElem?_set_self h]
theorem most_take (l : List Sn) (k n u f m : Int) (h : l.length ≤ 6) : (takeL l k n u f m).length ≤ 1048576 := by
 have := takeL_len l k n u f m
 omega
end Plain
theorem OwnSn.drew {B : Nat} {W : World} {v : Value} {l : List Sn} (h : OwnSn B W v l) : OwnSn B W.drew v l := h
theorem own_someS {B : Nat} {W : World} {v : Value} {l : List Sn} (h : OwnSn B W v l) (hl : 0 < l.length) : ∃ g cp, v = .slice (some ⟨g, 0, none⟩) l.length cp := by
 unfold OwnSn at h
 rcases h.2 with ⟨_, h0⟩ | ⟨g, cp, cur, hv, _⟩
 ·omega
 ·exact ⟨g, cp, hv⟩
set_option maxHeartbeats 16000000 in
set_option maxRecDepth 100000 in
theorem sameSeens_same (l : List Sn) (v1 v2 : Value) (B1 B2 : Nat) (w : World) (hs : l.length ≤ 1048576) (h1 : OwnSn B1 w v1 l) (h2 : OwnSn B2 w v2 l) :
  Calls Try.prog 8 #[v1, v2] w fun e w' => e = .returned (.bool true) ∧ Below w.heap.size w w' := by
 unfold OwnSn at h1 h2
 obtain ⟨n, hn⟩ : ∃ n, n = l.length := ⟨_, rfl⟩
 rw [← hn] at h1 h2 hs
 by_cases hz : n = 0
 ·obtain ⟨a1, c1, rfl⟩ := g_shape h1
  obtain ⟨a2, c2, rfl⟩ := g_shape h2
  clear h1 h2 hn
  subst hz
  go_enter Try.func8, Try.ntmps8
  go_wp2
  refine wp_loop_rounds 1 ?_
  rw [rounds_succ]
  go_wp2
  go_ret
  exact ⟨rfl, Below.refl _ _⟩
 ·rcases h1.2 with ⟨_, h10⟩ | ⟨g1, c1, cur1, rfl, hb1, hh1, _⟩
  ·exact absurd h10 hz
  rcases h2.2 with ⟨_, h20⟩ | ⟨g2, c2, cur2, rfl, hb2, hh2, _⟩
  ·exact absurd h20 hz
  have hl1 : g1 < w.heap.size := (h1.lt _ rfl).2
  have hl2 : g2 < w.heap.size := (h2.lt _ rfl).2
  have C1 := hide (fun (k : Nat) (f : Sn) (hx : l[k]? = some f) (hk : k < n) => sn_cells h1 hx hk)
  have C2 := hide (fun (k : Nat) (f : Sn) (hx : l[k]? = some f) (hk : k < n) => sn_cells h2 hx hk)
  have HN := hide hn; clear h1 h2 hh1 hh2 hn
  go_enter Try.func8, Try.ntmps8
  go_wp2
  go_loopw [5] (fun i wr => ∃ k : Nat, k ≤ n ∧ i = .int .i64 k ∧ Below w.heap.size w wr) (fun i _ => n - (intOf i).toNat)
  case atStart => exact ⟨0, Nat.zero_le _, rfl, Below.refl _ _⟩
  case round =>
   obtain ⟨k, hk, rfl, hbel⟩ := hrel
   by_cases hlt : k < n
   ·have hkl : k < l.length := by rw [← uh HN]; exact hlt
    obtain ⟨c0, c1, c2⟩ := uh C1 k l[k] (List.getElem?_eq_getElem hkl) hlt
    obtain ⟨d0, d1, d2⟩ := uh C2 k l[k] (List.getElem?_eq_getElem hkl) hlt
    generalize l[k] = f at *
    obtain ⟨uid, flags, mod⟩ := f
    simp only at c0 c1 c2 d0 d1 d2
    rw [← hbel.cell (p := ⟨g1, _, none⟩) hl1] at c0 c1 c2
    rw [← hbel.cell (p := ⟨g2, _, none⟩) hl2] at d0 d1 d2
    have hr1 : g1 < wr.heap.size := Nat.lt_of_lt_of_le hl1 hbel.size
    have hr2 : g2 < wr.heap.size := Nat.lt_of_lt_of_le hl2 hbel.size
    have hik : (0 : Int) ≤ (k : Int) := by omega
    have hil : (k : Int) < (n : Int) := by omega
    go_wp2
    refine wp_region_held_drew (S := fun w' => w'.cell? ⟨g1, k * 3, none⟩ = some (.int .i64 uid) ∧ w'.cell? ⟨g1, k * 3 + 1, none⟩ = some (.int .i64 flags) ∧ w'.cell? ⟨g1, k * 3 + 2, none⟩ = some (.int .i64 mod) ∧ w'.cell? ⟨g2, k * 3, none⟩ = some (.int .i64 uid) ∧ w'.cell? ⟨g2, k * 3 + 1, none⟩ = some (.int .i64 flags) ∧ w'.cell? ⟨g2, k * 3 + 2, none⟩ = some (.int .i64 mod)) (by kernel_rfl) (⟨c0, c1, c2, d0, d1, d2⟩) (fun hHeld => ?_)
    refine tv 0 17 ?_; refine tv 1 18 ?_; refine tv 2 19 ?_; refine tv 3 20 ?_; refine tv 4 21 ?_; refine tv 5 22 ?_; refine tv 6 23 ?_; refine tv 7 24 ?_; refine tv 8 25 ?_
    refine wpAnyH_done (by kernel_rfl) ?_ _
    go_wp2
    go_roundw
    case rel => exact ⟨k + 1, by omega, by go_num, hbel.drew⟩
    case measure => simp [intOf]; omega
   ·go_wp2
    go_ret
    exact ⟨rfl, hbel⟩
end Go.Proofs.Ytgdihceikhkddaa
