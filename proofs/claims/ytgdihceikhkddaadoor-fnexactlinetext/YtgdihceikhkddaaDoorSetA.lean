/- Several texts in one: RangeS, SetS, SetBits, SetRuns, SetPut. Made by fuse_tl.py. -/
import Derived.Test.YtgdihceikhkddaaDoorProg
import Derived.Test.YtgdihceikhkddaaDoorRowsA
import Derived.Test.YtgdihceikhkddaaDoorPlainA
import Derived.Deep.Slices
import Derived.Deep.Strs
import Derived.ChangeArms
import Derived.OpenShut
import Derived.Deep.RegionHeld3
import Derived.Deep.QuietTactic
import Derived.BigQuiet
import Derived.WalkSmall
import Derived.Deep.AppendLies
import Derived.Deep.AppendSrc
/- Rows of ranges: what the laws' own helpers do to them; one that came in, opened. -/
namespace Go.Proofs.YtgdihceikhkddaaDoor
open Go.RowKit Go.ChangeShapes Go.WideShapes Go.ChangeAt Go.Deep
open Plain
set_option linter.unusedVariables false

theorem Tryd.infoRange : (Tryd.prog.info? 49).map (fun i => (i.zero, i.size, i.bytes)) = some (some (.agg #[.int .i64 0, .int .i64 0]), 2, 16) := by kernel_rfl
def OwnR (B : Nat) (w : World) (v : Value) (l : List Rg) : Prop := w.ownsRow B 49 2 v l.length (rgs l)
theorem OwnR.up {B : Nat} {w w' : World} {v : Value} {l : List Rg} (h : OwnR B w v l) (hb : Below w.heap.size w w') : OwnR B w' v l := g_stays h hb

theorem rg_cells {w : World} {B g n cap : Nat} {l : List Rg} (h : w.ownsRow B 49 2 (.slice (some ⟨g, 0, none⟩) n cap) n (rgs l)) {k : Nat} {f : Rg} (hx : l[k]? = some f) (hk : k < n) :
  w.cell? ⟨g, k * 2, none⟩ = some (.int .i64 f.lo) ∧ w.cell? ⟨g, k * 2 + 1, none⟩ = some (.int .i64 f.hi) := by
 refine ⟨?_, ?_⟩
 ·rw [h.cellAt _ (by omega), rgs_0 hx]
 ·rw [h.cellAt _ (by omega), rgs_1 hx]

/-- Ranges that can be read in a row. -/
def ReadR (w : World) (v : Value) (l : List Rg) : Prop := ∃ a c, v = .slice a l.length c ∧ ∀ (k : Nat) (x : Rg), l[k]? = some x →
 ∃ g, a = some ⟨g, 0, none⟩ ∧ g < w.heap.size ∧ w.cell? ⟨g, k * 2, none⟩ = some (.int .i64 x.lo) ∧ w.cell? ⟨g, k * 2 + 1, none⟩ = some (.int .i64 x.hi)
theorem OwnR.read {B : Nat} {w : World} {v : Value} {l : List Rg} (h : OwnR B w v l) : ReadR w v l := by
 unfold OwnR at h
 rcases h.2 with ⟨rfl, h0⟩ | ⟨g, c, cur, rfl, hb, hh, hlc, _⟩
 ·refine ⟨none, 0, by rw [h0], fun k x hx => ?_⟩
  rw [List.eq_nil_of_length_eq_zero h0] at hx
  simp at hx
 ·refine ⟨_, _, rfl, fun k x hx => ⟨g, rfl, (h.lt _ rfl).2, ?_⟩⟩
  exact rg_cells h hx (List.getElem?_eq_some_iff.1 hx).1
theorem ReadR.up {w w' : World} {v : Value} {l : List Rg} (h : ReadR w v l) (hb : Below w.heap.size w w') : ReadR w' v l := by
 obtain ⟨a, c, hv, hc⟩ := h
 refine ⟨a, c, hv, fun k x hx => ?_⟩
 obtain ⟨g, hg, hl, c0, c1⟩ := hc k x hx
 exact ⟨g, hg, Nat.lt_of_lt_of_le hl hb.size, g_cell hb c0, g_cell hb c1⟩

/-- Ranges that came in, below block B. -/
def ArgR (B : Nat) (w : World) (a : Option Addr) (l : List Rg) : Prop :=
 ∀ i f, l[i]? = some f → ∃ x, a = some x ∧ x.block < B ∧ w.cell? (x.add (i * 2)) = some (.int .i64 f.lo) ∧ w.cell? ⟨(x.add (i * 2)).block, (x.add (i * 2)).off + 1, none⟩ = some (.int .i64 f.hi)
theorem ArgR.below {B : Nat} {w w' : World} {a : Option Addr} {l : List Rg} (h : ArgR B w a l) (hb : Below B w w') : ArgR B w' a l := by
 intro i f hf
 obtain ⟨x, h1, h2, c0, c1⟩ := h i f hf
 have hb' : (x.add (i * 2)).block < B := by rw [g_add]; exact h2
 exact ⟨x, h1, h2, (hb.cell hb').trans c0, (hb.cell (p := ⟨(x.add (i * 2)).block, _, none⟩) hb').trans c1⟩
theorem ArgR.up {w w' : World} {a : Option Addr} {l : List Rg} (h : ArgR w.heap.size w a l) (hb : Below w.heap.size w w') : ArgR w'.heap.size w' a l := by
 intro i f hf
 obtain ⟨x, h1, h2, h3⟩ := h.below hb i f hf
 exact ⟨x, h1, Nat.lt_of_lt_of_le h2 hb.size, h3⟩

theorem toRange_any (x : Rg) (w : World) :
  Calls Tryd.prog 23 #[.agg #[.int .i64 x.lo, .int .i64 x.hi]] w fun e w' => e = .returned (.agg #[.int .i64 x.lo, .int .i64 x.hi]) ∧ Below w.heap.size w w' := by
 obtain ⟨p, q⟩ := x
 go_enter Tryd.func23, Tryd.ntmps23
 go_wp2
 go_returns
 refine ⟨rfl, ?_⟩
 go_grown
theorem eqRange_same (x : Rg) (w : World) :
  Calls Tryd.prog 32 #[.agg #[.int .i64 x.lo, .int .i64 x.hi], .agg #[.int .i64 x.lo, .int .i64 x.hi]] w fun e w' => e = .returned (.bool true) ∧ Below w.heap.size w w' := by
 obtain ⟨p, q⟩ := x
 go_enter Tryd.func32, Tryd.ntmps32
 go_wp2
 go_ret
 refine ⟨rfl, ?_⟩
 go_grown

theorem szRangeS_any (a : Option Addr) (cap n L : Nat) (w : World) (hL : L ≤ 1048576) (hm : n ≤ maxLen) :
  Calls Tryd.prog 9 #[.slice a n cap, .int .i64 (L : Int)] w fun e w' => (∃ m : Int, e = .returned (.int .i64 m) ∧ (m = -1 ∨ ∃ q : Nat, m = (q : Int) ∧ q ≤ 1048576 ∧ n ≤ L)) ∧ w' = w := by
 unfold maxLen at hm
 by_cases hs : n ≤ L
 ·have hs' : (n : Int) ≤ (L : Int) := by omega
  go_enter Tryd.func9, Tryd.ntmps9
  go_wp2
  go_ret
  exact ⟨⟨_, rfl, .inr ⟨L - n, by omega, by omega, hs⟩⟩, rfl⟩
 ·have hs' : (L : Int) < (n : Int) := by omega
  go_enter Tryd.func9, Tryd.ntmps9
  go_wp2
  go_ret
  exact ⟨⟨_, rfl, .inl rfl⟩, rfl⟩

theorem made_ranges (n : Nat) : (madeCells (Value.agg #[.int .i64 0, .int .i64 0]).cells (n * 2)).toList = rgs (List.replicate n rg0) := by
 apply List.ext_getElem?
 intro i
 obtain ⟨q, j, rfl, hj⟩ : ∃ q j, i = q * 2 + j ∧ j < 2 := ⟨i / 2, i % 2, by omega, Nat.mod_lt _ (by omega)⟩
 by_cases hq : q < n
 ·rw [rgs_get _ q rg0 (by simp [hq]) j hj]
  have e1 : (q * 2 + j) % 2 = j := by omega
  have hm : q * 2 + j < n * 2 := by omega
  rw [Array.getElem?_toList, madeCells, Array.getElem?_map, Array.getElem?_eq_getElem (by simp; omega), Array.getElem_range, Option.map_some]
  show some (#[Value.int .i64 0, .int .i64 0][(q * 2 + j) % 2]!) = _
  rw [e1]
  match j, hj with
  | 0, _ => simp [rgl, rg0]
  | 1, _ => simp [rgl, rg0]
 ·rw [List.getElem?_eq_none (by simp [madeCells]; omega), List.getElem?_eq_none (by simp [rgs_length]; omega)]

set_option maxHeartbeats 1000000 in
theorem toRangeS_any (a : Option Addr) (cap : Nat) (l : List Rg) (w : World) (hs : l.length ≤ 1048576) (h : ArgR w.heap.size w a l) :
  Calls Tryd.prog 14 #[.slice a l.length cap] w fun e w' => ∃ v, e = .returned v ∧ OwnR w.heap.size w' v l ∧ Below w.heap.size w w' := by
 obtain ⟨i0, hi, hz0, hz1, hz2⟩ := info_parts Tryd.infoRange
 have HA := hide h; clear h
 go_enter Tryd.func14, Tryd.ntmps14
 go_wp2_with (refine wpList_make_full _ rfl _ _ 28 rfl w.heap.size 49 i0 _ 2 Tryd.underlying28 hi hz0 hz1 .i64 .i64 _ _ l.length rfl rfl rfl rfl (by rw [hz2]; omega) (by unfold maxLen; omega) (Nat.le_refl _) ?_; intro wm hown hgm)
 rw [made_ranges] at hown
 have hgl : w.heap.size < wm.heap.size := (hown.lt _ rfl).2
 go_loopw [4] (fun i wr => ∃ k : Nat, k ≤ l.length ∧ i = .int .i64 k ∧ wr.ownsRow w.heap.size 49 2 (.slice (some ⟨w.heap.size, 0, none⟩) l.length l.length) l.length (rgs (laidR l k)) ∧ Below w.heap.size w wr) (fun i _ => l.length - (intOf i).toNat)
 case atStart => exact ⟨0, Nat.zero_le _, rfl, by rw [laidR_zero]; exact hown, g_below hgm⟩
 case round =>
  obtain ⟨k, hk, rfl, hownk, hbel⟩ := hrel
  clear hown
  by_cases hlt : k < l.length
  ·obtain ⟨x, rfl, hxb, c0, c1⟩ := (uh HA).below hbel k l[k] (List.getElem?_eq_getElem hlt)
   have hset := hide (laidR_set l k hlt); have hll := hide (laidR_length l k hk)
   generalize l[k] = f at *
   have HT := hide (fun wx => toRange_any f wx)
   have hgr : w.heap.size < wr.heap.size := (hownk.lt _ rfl).2
   have OK := hide hownk; clear hownk; go_wp2_with fail
   refine (uh HT _).mono ?_
   rintro e w1 ⟨rfl, hb1⟩
   have own1 : w1.ownsRow w.heap.size 49 2 (.slice (some ⟨w.heap.size, 0, none⟩) l.length l.length) l.length (rgs (laidR l k)) := g_stays (uh OK) hb1
   have f0 := own1.frozenAt (k * 2); have f1 := own1.frozenAt (k * 2 + 1)
   have hget : (laidR l k)[k]? = some ((laidR l k)[k]'(by rw [uh hll]; exact hlt)) := List.getElem?_eq_getElem _
   obtain ⟨d0, d1⟩ := rg_cells own1 hget hlt
   generalize (laidR l k)[k]'(by rw [uh hll]; exact hlt) = f' at *
   have hst0 := own1.stored (k * 2) (.int .i64 f.lo); have hst1 := hst0.1.stored (k * 2 + 1) (.int .i64 f.hi)
   rw [rgs_set _ _ _ (by rw [uh hll]; exact hlt), uh hset] at hst1
   have HST := hide hst1.1
   have hB := hide (((below2 hbel hb1).setCell (p := ⟨w.heap.size, k * 2, none⟩) (Nat.le_refl _) (.int .i64 f.lo)).setCell (p := ⟨w.heap.size, k * 2 + 1, none⟩) (Nat.le_refl _) (.int .i64 f.hi))
   clear own1 hst0 hst1
   go_wp2
   go_roundw
   case rel => exact ⟨k + 1, by omega, by go_num, uh HST, uh hB⟩
   case measure => simp [intOf]; omega
  ·have e : k = l.length := by omega
   subst e
   rw [laidR_all] at hownk
   go_wp2
   go_ret
   exact ⟨_, rfl, hownk, hbel⟩

theorem Tryd.cellsLRange : Tryd.prog.cellsOf 51 = 2 := by kernel_rfl
end Go.Proofs.YtgdihceikhkddaaDoor

/- Sets of numbers, as the specification tells them: SetOk, SetHas, SetSize. -/
namespace Go.Proofs.YtgdihceikhkddaaDoor
open Go.RowKit
open Plain
set_option linter.unusedVariables false

namespace Plain
theorem okFrom_take {p : Int} {s : List Rg} (k : Nat) (h : okFrom p s = true) : okFrom p (s.take k) = true := by
 induction s generalizing p k with
 | nil => simp [okFrom]
 | cons r t ih =>
  cases k with
  | zero => rfl
  | succ k =>
   rw [List.take_succ_cons, okFrom_cons]
   rw [okFrom_cons] at h
   exact ⟨h.1, h.2.1, h.2.2.1, h.2.2.2.1, ih k h.2.2.2.2⟩
theorem okS_no {s : List Rg} (k : Nat) (h : okFrom (-1) (s.take k) = false) : okS s = false := by
 cases hx : okFrom (-1) s with
 | false => simp [okS, hx]
 | true => rw [okFrom_take k hx] at h; cases h
theorem ok_snoc {s : List Rg} {k : Nat} {r : Rg} (hr : s[k]? = some r) : s.take (k + 1) = s.take k ++ [r] := by rw [List.take_add_one, hr]; rfl
theorem ok_next {s : List Rg} {k : Nat} {r : Rg} (hr : s[k]? = some r) (h : okFrom (-1) (s.take k) = true) (h1 : 1 ≤ r.lo) (h2 : r.lo ≤ r.hi) (h3 : r.hi ≤ 9999) (h4 : lastHi (-1) (s.take k) + 1 < r.lo) : okFrom (-1) (s.take (k + 1)) = true := by
 rw [ok_snoc hr]; exact okFrom_snoc.2 ⟨h, h1, h2, h3, h4⟩
theorem ok_fail {s : List Rg} {k : Nat} {r : Rg} (hr : s[k]? = some r) (h : ¬ (1 ≤ r.lo ∧ r.lo ≤ r.hi ∧ r.hi ≤ 9999 ∧ lastHi (-1) (s.take k) + 1 < r.lo)) : okS s = false := by
 refine okS_no (k + 1) ?_
 cases hx : okFrom (-1) (s.take (k + 1)) with
 | false => rfl
 | true =>
  rw [ok_snoc hr] at hx
  exact absurd (okFrom_snoc.1 hx).2 h
theorem last_take {s : List Rg} {k : Nat} {p : Rg} (hp : s[k]? = some p) : lastHi (-1) (s.take (k + 1)) = p.hi := by rw [ok_snoc hp, lastHi_snoc]
theorem ok_at {s : List Rg} {k : Nat} {r : Rg} (h : okFrom (-1) s = true) (hr : s[k]? = some r) : 1 ≤ r.lo ∧ r.lo ≤ r.hi ∧ r.hi ≤ 9999 := by
 have := okFrom_take (k + 1) h
 rw [ok_snoc hr] at this
 have := okFrom_snoc.1 this
 exact ⟨this.2.1, this.2.2.1, this.2.2.2.1⟩
theorem okS_parts {s : List Rg} (h : okS s = true) : okFrom (-1) s = true ∧ s.length ≤ 40 := by simpa [okS] using h
end Plain

theorem drewN2 (w : World) (a b : Nat) : (w.drewN a).drewN b = w.drewN (a + b) := by unfold World.drewN; simp [Nat.add_assoc]

theorem l01In_is (x l m : Int) (w : World) : Calls Tryd.prog 18 #[.int .i64 x, .int .i64 l, .int .i64 m] w fun e w' => e = .returned (.bool (decide (l ≤ x) && decide (x ≤ m))) ∧ w' = w := by
 by_cases h : l ≤ x
 ·have hd : decide (l ≤ x) = true := by simpa using h
  by_cases h2 : x ≤ m
  ·have hd2 : decide (x ≤ m) = true := by simpa using h2
   rw [hd, hd2]
   go_enter Tryd.func18, Tryd.ntmps18
   go_wp2
   go_ret
   exact ⟨rfl, rfl⟩
  ·have hd2 : decide (x ≤ m) = false := by simpa using h2
   rw [hd, hd2]
   go_enter Tryd.func18, Tryd.ntmps18
   go_wp2
   go_ret
   exact ⟨rfl, rfl⟩
 ·have hd : decide (l ≤ x) = false := by simpa using h
  rw [hd]
  go_enter Tryd.func18, Tryd.ntmps18
  go_wp2
  go_ret
  exact ⟨rfl, rfl⟩

set_option maxHeartbeats 4000000 in
set_option maxRecDepth 100000 in
theorem spec_SetOk_any (s : List Rg) (v : Value) (w : World) (hs : s.length ≤ 1048576) (h : ReadR w v s) :
  Calls Tryd.prog 19 #[v] w fun e w' => e = .returned (.bool (okS s)) ∧ ∃ q, w' = w.drewN q := by
 obtain ⟨a, c, rfl, hc⟩ := h
 have C := hide hc; clear hc
 go_enter Tryd.func19, Tryd.ntmps19
 go_wp2
 go_loopw [3] (fun i wr => ∃ k q : Nat, k ≤ s.length ∧ i = .int .i64 k ∧ okFrom (-1) (s.take k) = true ∧ wr = w.drewN q) (fun i _ => s.length - (intOf i).toNat)
 case atStart => exact ⟨0, 0, Nat.zero_le _, rfl, rfl, rfl⟩
 case round =>
  obtain ⟨k, q, hk, rfl, hok, rfl⟩ := hrel
  by_cases hlt : k < s.length
  ·have hgk : s[k]? = some s[k] := List.getElem?_eq_getElem hlt
   obtain ⟨g, hga, hgl, c0, c1⟩ := uh C k s[k] hgk
   subst hga
   have FAIL := hide (fun h => ok_fail hgk h)
   have NEXT := hide (fun h1 h2 h3 h4 => ok_next hgk hok h1 h2 h3 h4)
   have PREV : ∀ j, k = j + 1 → ∃ p : Rg, s[j]? = some p ∧ 1 ≤ p.hi ∧ p.hi ≤ 9999 ∧ lastHi (-1) (s.take k) = p.hi ∧ w.cell? ⟨g, j * 2 + 1, none⟩ = some (.int .i64 p.hi) := by
    intro j hj
    subst hj
    have hp : s[j]? = some s[j] := List.getElem?_eq_getElem (by omega)
    obtain ⟨g', hg', _, _, d1⟩ := uh C j s[j] hp
    have e : g' = g := by cases hg'; rfl
    subst e
    have ho := okFrom_snoc.1 (by rw [← ok_snoc hp]; exact hok)
    exact ⟨s[j], hp, by have h1 := ho.2.1; have h2 := ho.2.2.1; omega, ho.2.2.2.1, last_take hp, d1⟩
   have P := hide PREV
   have HK0 : Hid (k = 0 → lastHi (-1) (s.take k) = -1) := fun h => by rw [h]; rfl
   generalize s[k] = r at *
   obtain ⟨rl, rh⟩ := r
   simp only at c0 c1 FAIL NEXT
   have hik : (0 : Int) ≤ (k : Int) := by omega
   have hil : (k : Int) < (s.length : Int) := by omega
   clear hok hgk PREV
   by_cases hA : 1 ≤ rl ∧ rl ≤ rh
   ·obtain ⟨hA1, hA2⟩ := hA
    have L : Hid (∀ W, Calls Tryd.prog 18 #[.int .i64 rl, .int .i64 1, .int .i64 rh] W fun e w' => e = .returned (.bool true) ∧ w' = W) := fun W => by
     have := l01In_is rl 1 rh W
     rw [decide_eq_true hA1, decide_eq_true hA2] at this
     exact this
    by_cases hB : 9999 < rh
    ·have dB : decide ((9999 : Int) < rh) = true := by simpa using hB
     have F := hide (uh FAIL (fun h => absurd h.2.2.1 (by omega)))
     go_wp2
     go_quiet ((go_at_call 18; exact (uh L _).mono fun _ _ h => ⟨h.1, _, h.2⟩))
     go_wp2
     go_ret
     exact ⟨by rw [uh F]; rfl, _, drewN2 _ _ _⟩
    ·have dB : decide ((9999 : Int) < rh) = false := by simpa using hB
     cases hk0 : k with
     | zero =>
      subst hk0
      have N := hide (uh NEXT hA1 hA2 (by omega) (by rw [uh HK0 rfl]; omega))
      go_wp2
      go_quiet ((go_at_call 18; exact (uh L _).mono fun _ _ h => ⟨h.1, _, h.2⟩))
      go_wp2
      go_roundw
      case rel => exact ⟨1, _, by omega, by go_num, uh N, rfl⟩
      case measure => simp [intOf]; omega
     | succ j =>
      subst hk0
      obtain ⟨p, hp, hp1, hp9, hlast, d1⟩ := uh P j rfl
      obtain ⟨pl, ph⟩ := p
      simp only at hp1 hp9 hlast d1
      have dj : decide ((0 : Int) < (j : Int) + 1) = true := by rw [decide_eq_true_eq]; omega
      have hij : (0 : Int) ≤ (j : Int) + 1 - 1 := by omega
      have hij2 : (j : Int) < (s.length : Int) := by omega
      by_cases hD : rl ≤ ph + 1
      ·have dD : decide (rl ≤ ph + 1) = true := by simpa using hD
       have F := hide (uh FAIL (fun h => by have := h.2.2.2; rw [hlast] at this; omega))
       go_wp2
       go_quiet ((go_at_call 18; exact (uh L _).mono fun _ _ h => ⟨h.1, _, h.2⟩))
       go_wp2
       go_ret
       exact ⟨by rw [uh F]; rfl, _, drewN2 _ _ _⟩
      ·have dD : decide (rl ≤ ph + 1) = false := by simpa using hD
       have N := hide (uh NEXT hA1 hA2 (by omega) (by rw [hlast]; omega))
       go_wp2
       go_quiet ((go_at_call 18; exact (uh L _).mono fun _ _ h => ⟨h.1, _, h.2⟩))
       go_wp2
       go_roundw
       case rel => exact ⟨j + 1 + 1, _, by omega, by go_num, uh N, rfl⟩
       case measure => simp [intOf]; omega
   ·have L : Hid (∀ W, Calls Tryd.prog 18 #[.int .i64 rl, .int .i64 1, .int .i64 rh] W fun e w' => e = .returned (.bool false) ∧ w' = W) := fun W => by
     have := l01In_is rl 1 rh W
     have e : (decide ((1 : Int) ≤ rl) && decide (rl ≤ rh)) = false := by
      rw [Bool.and_eq_false_iff]
      by_cases h : 1 ≤ rl
      ·right; simp; omega
      ·left; simp; omega
     rw [e] at this
     exact this
    have F := hide (uh FAIL (fun h => hA ⟨h.1, h.2.1⟩))
    go_wp2
    go_quiet ((go_at_call 18; exact (uh L _).mono fun _ _ h => ⟨h.1, _, h.2⟩))
    go_wp2
    go_ret
    exact ⟨by rw [uh F]; rfl, _, drewN2 _ _ _⟩
  ·have e : k = s.length := by omega
   have hall : okFrom (-1) s = true := by rw [e, List.take_length] at hok; exact hok
   have O := hide hall; clear hok hall
   go_wp2
   go_ret
   refine ⟨?_, q, rfl⟩
   rw [okS, uh O, Bool.true_and]
   by_cases h40 : s.length ≤ 40
   ·rw [decide_eq_true h40]; simp; omega
   ·rw [decide_eq_false h40]; simp; omega

end Go.Proofs.YtgdihceikhkddaaDoor

/- Sets of numbers as marks: the specification's l05Bits and l05Set. -/
namespace Go.Proofs.YtgdihceikhkddaaDoor
open Go.RowKit
open Plain
set_option linter.unusedVariables false

namespace Plain
end Plain

end Go.Proofs.YtgdihceikhkddaaDoor

/- The set of what is marked: the specification's l05Set. -/
namespace Go.Proofs.YtgdihceikhkddaaDoor
open Go.RowKit
open Plain
set_option linter.unusedVariables false

namespace Plain
end Plain

end Go.Proofs.YtgdihceikhkddaaDoor

/- Numbers put into a set, or taken out of it: the specification's l05Put, SetAdd, SetDrop. -/
namespace Go.Proofs.YtgdihceikhkddaaDoor
open Go.RowKit
open Plain
set_option linter.unusedVariables false

namespace Plain
end Plain

end Go.Proofs.YtgdihceikhkddaaDoor
