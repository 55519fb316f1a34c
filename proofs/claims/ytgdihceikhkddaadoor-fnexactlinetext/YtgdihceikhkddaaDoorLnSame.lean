/- The program's slices.Equal over ranges. Made by gen_line.py. -/
import Derived.Test.YtgdihceikhkddaaDoorTv
import Derived.Test.YtgdihceikhkddaaDoorLnVal
import Derived.Test.YtgdihceikhkddaaDoorImplSet
namespace Go.Proofs.YtgdihceikhkddaaDoor
open Go.RowKit Go.ChangeShapes Go.WideShapes Go.ChangeAt Go.Deep
open Plain
set_option linter.unusedVariables false
set_option linter.unusedSimpArgs false

theorem ReadO.drew {w : World} {v : Value} {l : List Rg} (h : ReadO w v l) : ReadO w.drew v l := h
set_option maxHeartbeats 4000000 in
set_option maxRecDepth 100000 in
theorem equalL_self (a : Option Addr) (c : Nat) (l : List Rg) (w : World) (hs : l.length ≤ 1048576) (h : ReadO w (.slice a l.length c) l) :
  Calls Tryd.prog 36 #[.slice a l.length c, .slice a l.length c] w fun x w' => x = .returned (.bool true) ∧ Below w.heap.size w w' := by
 obtain ⟨n, hn⟩ : ∃ n, n = l.length := ⟨_, rfl⟩
 have HO := hide h; have HN := hide hn
 rw [← hn] at hs ⊢
 clear h hn
 go_enter Tryd.func36, Tryd.ntmps36
 go_wp2
 go_loopw [13] (fun i wr => ∃ k : Nat, k ≤ n ∧ i = .int .i64 k ∧ Below w.heap.size w wr) (fun i _ => n - (intOf i).toNat)
 case atStart => exact ⟨0, Nat.zero_le _, rfl, Below.refl _ _⟩
 case round =>
  obtain ⟨k, hk, rfl, hbel⟩ := hrel
  obtain ⟨wo, hwo⟩ : ∃ wo, wo = wr := ⟨_, rfl⟩
  subst hwo
  by_cases hlt : k < n
  ·have hx : l[k]? = some l[k] := List.getElem?_eq_getElem (by rw [← uh HN]; exact hlt)
   obtain ⟨a2, c2, e2, _, hc⟩ := (uh HO).up hbel
   obtain ⟨g, o, e3, _, c0, c1⟩ := hc k _ hx
   have e4 := (Value.slice.inj e2).1
   rw [e3] at e4
   subst e4
   have BB := hide hbel; have C0 := hide c0; have C1 := hide c1
   generalize l[k] = y at *
   clear e2 e3 hc hx hbel c0 c1 HO
   have i1 : (0 : Int) ≤ (k : Int) := by omega
   have i2 : (k : Int) < (n : Int) := by omega
   go_wp2
   refine wp_region_held_drew (S := fun w' => w'.cell? ⟨g, o + k * 2, none⟩ = some (.int .i64 y.lo) ∧ w'.cell? ⟨g, o + k * 2 + 1, none⟩ = some (.int .i64 y.hi)) (by kernel_rfl) (⟨uh C0, uh C1⟩) (fun hHeld => ?_)
   replace BB := hide ((uh BB).drew)
   have sz1 : Hid (wo.heap.size ≤ wo.drew.heap.size) := Nat.le_refl _
   refine tv 0 16 ?_; refine tv 1 17 ?_; refine tv 2 18 ?_; refine tv 3 19 ?_; refine tv 4 20 ?_; refine tv 5 21 ?_; refine tv 6 22 ?_; refine tv 7 23 ?_; refine tv 8 24 ?_
   refine wpAnyH_done (by kernel_rfl) ?_ _
   go_wp2
   go_roundw
   case rel => exact ⟨k + 1, by omega, by go_num, uh BB⟩
   case measure => simp [intOf]; omega
  ·obtain rfl : k = n := by omega
   go_wp2
   go_ret
   exact ⟨rfl, hbel⟩
theorem equal_self_n (a : Option Addr) (c n : Nat) (l : List Rg) (w : World) (hs : l.length ≤ 1048576) (hn : n = l.length) (h : ReadO w (.slice a n c) l) :
  Calls Tryd.prog 36 #[.slice a n c, .slice a n c] w fun x w' => x = .returned (.bool true) ∧ Below w.heap.size w w' := by subst hn; exact equalL_self a c l w hs h
set_option maxHeartbeats 4000000 in
set_option maxRecDepth 100000 in
theorem equal_nil_r (a : Option Addr) (c n : Nat) (w : World) (hs : n ≤ 1048576) :
  Calls Tryd.prog 36 #[.slice a n c, .slice none 0 0] w fun x w' => x = .returned (.bool (decide (n = 0))) ∧ Below w.heap.size w w' := by
 by_cases h : n = 0
 ·subst h
  go_enter Tryd.func36, Tryd.ntmps36
  go_wp2
  go_loopw [13] (fun i wr => i = .int .i64 0 ∧ Below w.heap.size w wr) (fun i _ => 0)
  case atStart => exact ⟨rfl, Below.refl _ _⟩
  case round =>
   obtain ⟨rfl, hbel⟩ := hrel
   go_wp2
   go_ret
   exact ⟨rfl, hbel⟩
 ·have h2 : ¬ ((n : Int) = 0) := by omega
  rw [decide_eq_false h]
  go_enter Tryd.func36, Tryd.ntmps36
  go_wp2
  go_ret
  exact ⟨rfl, Below.refl _ _⟩
end Go.Proofs.YtgdihceikhkddaaDoor
