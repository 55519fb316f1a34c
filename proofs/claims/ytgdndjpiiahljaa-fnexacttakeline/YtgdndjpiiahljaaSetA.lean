/- Several texts in one: RangeS, SetS, SetBits, SetRuns, SetPut. Made by fuse_tl.py. -/
import Derived.Test.YtgdndjpiiahljaaProg
import Derived.Test.YtgdndjpiiahljaaRowsA
import Derived.Test.YtgdndjpiiahljaaPlainA
import Derived.Deep.Slices
import Derived.Deep.Strs
import Derived.ChangeArms
import Derived.OpenShut
import Derived.Deep.RegionHeld3
import Derived.Deep.QuietTactic
import Derived.BigQuiet
import Derived.WalkSmall
import Derived.Deep.AppendLies
import Derived.Deep.AppendSrc
/- Rows of ranges: what the laws' own helpers do to them; one that came in, opened. -/
namespace Go.Proofs.Ytgdndjpiiahljaa
open Go.RowKit Go.ChangeShapes Go.WideShapes Go.ChangeAt Go.Deep
open Plain
set_option linter.unusedVariables false

theorem Try.infoRange : (Try.prog.info? 80).map (fun i => (i.zero, i.size, i.bytes)) = some (some (.agg #[.int .i64 0, .int .i64 0]), 2, 16) := by kernel_rfl
def OwnR (B : Nat) (w : World) (v : Value) (l : List Rg) : Prop := w.ownsRow B 80 2 v l.length (rgs l)
theorem OwnR.up {B : Nat} {w w' : World} {v : Value} {l : List Rg} (h : OwnR B w v l) (hb : Below w.heap.size w w') : OwnR B w' v l := g_stays h hb

theorem rg_cells {w : World} {B g n cap : Nat} {l : List Rg} (h : w.ownsRow B 80 2 (.slice (some ⟨g, 0, none⟩) n cap) n (rgs l)) {k : Nat} {f : Rg} (hx : l[k]? = some f) (hk : k < n) :
  w.cell? ⟨g, k * 2, none⟩ = some (.int .i64 f.lo) ∧ w.cell? ⟨g, k * 2 + 1, none⟩ = some (.int .i64 f.hi) := by
 refine ⟨?_, ?_⟩
 ·rw [h.cellAt _ (by omega), rgs_0 hx]
 ·rw [h.cellAt _ (by omega), rgs_1 hx]

/-- Ranges that can be read in a row. -/
def ReadR (w : World) (v : Value) (l : List Rg) : Prop := ∃ a c, v = .slice a l.length c ∧ ∀ (k : Nat) (x : Rg), l[k]? = some x →
 ∃ g, a = some ⟨g, 0, none⟩ ∧ g < w.heap.size ∧ w.cell? ⟨g, k * 2, none⟩ = some (.int .i64 x.lo) ∧ w.cell? ⟨g, k * 2 + 1, none⟩ = some (.int .i64 x.hi)
theorem OwnR.read {B : Nat} {w : World} {v : Value} {l : List Rg} (h : OwnR B w v l) : ReadR w v l := by
 unfold OwnR at h
 rcases h.2 with ⟨rfl, h0⟩ | ⟨g, c, cur, rfl, hb, hh, hlc, _⟩
 ·refine ⟨none, 0, by rw [h0], fun k x hx => ?_⟩
  rw [List.eq_nil_of_length_eq_zero h0] at hx
  simp at hx
 ·refine ⟨_, _, rfl, fun k x hx => ⟨g, rfl, (h.lt _ rfl).2, ?_⟩⟩
  exact rg_cells h hx (List.getElem?_eq_some_iff.1 hx).1
theorem ReadR.up {w w' : World} {v : Value} {l : List Rg} (h : ReadR w v l) (hb : Below w.heap.size w w') : ReadR w' v l := by
 obtain ⟨a, c, hv, hc⟩ := h
 refine ⟨a, c, hv, fun k x hx => ?_⟩
 obtain ⟨g, hg, hl, c0, c1⟩ := hc k x hx
 exact ⟨g, hg, Nat.lt_of_lt_of_le hl hb.size, g_cell hb c0, g_cell hb c1⟩

/-- Ranges that came in, below block B. -/
def ArgR (B : Nat) (w : World) (a : Option Addr) (l : List Rg) : Prop :=
 ∀ i f, l[i]? = some f → ∃ x, a = some x ∧ x.block < B ∧ w.cell? (x.add (i * 2)) = some (.int .i64 f.lo) ∧ w.cell? ⟨(x.add (i * 2)).block, (x.add (i * 2)).off + 1, none⟩ = some (.int .i64 f.hi)
theorem ArgR.below {B : Nat} {w w' : World} {a : Option Addr} {l : List Rg} (h : ArgR B w a l) (hb : Below B w w') : ArgR B w' a l := by
 intro i f hf
 obtain ⟨x, h1, h2, c0, c1⟩ := h i f hf
 have hb' : (x.add (i * 2)).block < B := by rw [g_add]; exact h2
 exact ⟨x, h1, h2, (hb.cell hb').trans c0, (hb.cell (p := ⟨(x.add (i * 2)).block, _, none⟩) hb').trans c1⟩
theorem ArgR.up {w w' : World} {a : Option Addr} {l : List Rg} (h : ArgR w.heap.size w a l) (hb : Below w.heap.size w w') : ArgR w'.heap.size w' a l := by
 intro i f hf
 obtain ⟨x, h1, h2, h3⟩ := h.below hb i f hf
 exact ⟨x, h1, Nat.lt_of_lt_of_le h2 hb.size, h3⟩

theorem toRange_any (x : Rg) (w : World) :
  Calls Try.prog 47 #[.agg #[.int .i64 x.lo, .int .i64 x.hi]] w fun e w' => e = .returned (.agg #[.int .i64 x.lo, .int .i64 x.hi]) ∧ Below w.heap.size w w' := by
 obtain ⟨p, q⟩ := x
 go_enter Try.func47, Try.ntmps47
 go_wp2
 go_returns
 refine ⟨rfl, ?_⟩
 go_grown
theorem eqRange_same (x : Rg) (w : World) :
  Calls Try.prog 51 #[.agg #[.int .i64 x.lo, .int .i64 x.hi], .agg #[.int .i64 x.lo, .int .i64 x.hi]] w fun e w' => e = .returned (.bool true) ∧ Below w.heap.size w w' := by
 obtain ⟨p, q⟩ := x
 go_enter Try.func51, Try.ntmps51
 go_wp2
 go_ret
 refine ⟨rfl, ?_⟩
 go_grown

theorem szRangeS_any (a : Option Addr) (cap n L : Nat) (w : World) (hL : L ≤ 1048576) (hm : n ≤ maxLen) :
  Calls Try.prog 33 #[.slice a n cap, .int .i64 (L : Int)] w fun e w' => (∃ m : Int, e = .returned (.int .i64 m) ∧ (m = -1 ∨ ∃ q : Nat, m = (q : Int) ∧ q ≤ 1048576 ∧ n ≤ L)) ∧ w' = w := by
 unfold maxLen at hm
 by_cases hs : n ≤ L
 ·have hs' : (n : Int) ≤ (L : Int) := by omega
  go_enter Try.func33, Try.ntmps33
  go_wp2
  go_ret
  exact ⟨⟨_, rfl, .inr ⟨L - n, by omega, by omega, hs⟩⟩, rfl⟩
 ·have hs' : (L : Int) < (n : Int) := by omega
  go_enter Try.func33, Try.ntmps33
  go_wp2
  go_ret
  exact ⟨⟨_, rfl, .inl rfl⟩, rfl⟩

theorem made_ranges (n : Nat) : (madeCells (Value.agg #[.int .i64 0, .int .i64 0]).cells (n * 2)).toList = rgs (List.replicate n rg0) := by
 apply List.ext_getElem?
 intro i
 obtain ⟨q, j, rfl, hj⟩ : ∃ q j, i = q * 2 + j ∧ j < 2 := ⟨i / 2, i % 2, by omega, Nat.mod_lt _ (by omega)⟩
 by_cases hq : q < n
 ·rw [rgs_get _ q rg0 (by simp [hq]) j hj]
  have e1 : (q * 2 + j) % 2 = j := by omega
  have hm : q * 2 + j < n * 2 := by omega
  rw [Array.getElem?_toList, madeCells, Array.getElem?_map, Array.getElem?_eq_getElem (by simp; omega), Array.getElem_range, Option.map_some]
  show some (#[Value.int .i64 0, .int .i64 0][(q * 2 + j) % 2]!) = _
  rw [e1]
  match j, hj with
  | 0, _ => simp [rgl, rg0]
  | 1, _ => simp [rgl, rg0]
 ·rw [List.getElem?_eq_none (by simp [madeCells]; omega), List.getElem?_eq_none (by simp [rgs_length]; omega)]

set_option maxHeartbeats 1000000 in
theorem toRangeS_any (a : Option Addr) (cap : Nat) (l : List Rg) (w : World) (hs : l.length ≤ 1048576) (h : ArgR w.heap.size w a l) :
  Calls Try.prog 36 #[.slice a l.length cap] w fun e w' => ∃ v, e = .returned v ∧ OwnR w.heap.size w' v l ∧ Below w.heap.size w w' := by
 obtain ⟨i0, hi, hz0, hz1, hz2⟩ := info_parts Try.infoRange
 have HA := hide h; clear h
 go_enter Try.func36, Try.ntmps36
 go_wp2_with (refine wpList_make_full _ rfl _ _ 25 rfl w.heap.size 80 i0 _ 2 Try.underlying25 hi hz0 hz1 .i64 .i64 _ _ l.length rfl rfl rfl rfl (by rw [hz2]; omega) (by unfold maxLen; omega) (Nat.le_refl _) ?_; intro wm hown hgm)
 rw [made_ranges] at hown
 have hgl : w.heap.size < wm.heap.size := (hown.lt _ rfl).2
 go_loopw [4] (fun i wr => ∃ k : Nat, k ≤ l.length ∧ i = .int .i64 k ∧ wr.ownsRow w.heap.size 80 2 (.slice (some ⟨w.heap.size, 0, none⟩) l.length l.length) l.length (rgs (laidR l k)) ∧ Below w.heap.size w wr) (fun i _ => l.length - (intOf i).toNat)
 case atStart => exact ⟨0, Nat.zero_le _, rfl, by rw [laidR_zero]; exact hown, g_below hgm⟩
 case round =>
  obtain ⟨k, hk, rfl, hownk, hbel⟩ := hrel
  clear hown
  by_cases hlt : k < l.length
  ·obtain ⟨x, rfl, hxb, c0, c1⟩ := (uh HA).below hbel k l[k] (List.getElem?_eq_getElem hlt)
   have hset := hide (laidR_set l k hlt); have hll := hide (laidR_length l k hk)
   generalize l[k] = f at *
   have HT := hide (fun wx => toRange_any f wx)
   have hgr : w.heap.size < wr.heap.size := (hownk.lt _ rfl).2
   have OK := hide hownk; clear hownk; go_wp2_with fail
   refine (uh HT _).mono ?_
   rintro e w1 ⟨rfl, hb1⟩
   have own1 : w1.ownsRow w.heap.size 80 2 (.slice (some ⟨w.heap.size, 0, none⟩) l.length l.length) l.length (rgs (laidR l k)) := g_stays (uh OK) hb1
   have f0 := own1.frozenAt (k * 2); have f1 := own1.frozenAt (k * 2 + 1)
   have hget : (laidR l k)[k]? = some ((laidR l k)[k]'(by rw [uh hll]; exact hlt)) := List.getElem?_eq_getElem _
   obtain ⟨d0, d1⟩ := rg_cells own1 hget hlt
   generalize (laidR l k)[k]'(by rw [uh hll]; exact hlt) = f' at *
   have hst0 := own1.stored (k * 2) (.int .i64 f.lo); have hst1 := hst0.1.stored (k * 2 + 1) (.int .i64 f.hi)
   rw [rgs_set _ _ _ (by rw [uh hll]; exact hlt), uh hset] at hst1
   have HST := hide hst1.1
   have hB := hide (((below2 hbel hb1).setCell (p := ⟨w.heap.size, k * 2, none⟩) (Nat.le_refl _) (.int .i64 f.lo)).setCell (p := ⟨w.heap.size, k * 2 + 1, none⟩) (Nat.le_refl _) (.int .i64 f.hi))
   clear own1 hst0 hst1
   go_wp2
   go_roundw
   case rel => exact ⟨k + 1, by omega, by go_num, uh HST, uh hB⟩
   case measure => simp [intOf]; omega
  ·have e : k = l.length := by omega
   subst e
   rw [laidR_all] at hownk
   go_wp2
   go_ret
   exact ⟨_, rfl, hownk, hbel⟩

theorem Try.cellsLRange : Try.prog.cellsOf 82 = 2 := by kernel_rfl
end Go.Proofs.Ytgdndjpiiahljaa

/- Sets of numbers, as the specification tells them: SetOk, SetHas, SetSize. -/
namespace Go.Proofs.Ytgdndjpiiahljaa
open Go.RowKit
open Plain
set_option linter.unusedVariables false

namespace Plain
end Plain

end Go.Proofs.Ytgdndjpiiahljaa

/- Sets of numbers as marks: the specification's l05Bits and l05Set. -/
namespace Go.Proofs.Ytgdndjpiiahljaa
open Go.RowKit
open Plain
set_option linter.unusedVariables false

namespace Plain
end Plain

end Go.Proofs.Ytgdndjpiiahljaa

/- The set of what is marked: the specification's l05Set. -/
namespace Go.Proofs.Ytgdndjpiiahljaa
open Go.RowKit
open Plain
set_option linter.unusedVariables false

namespace Plain
end Plain

end Go.Proofs.Ytgdndjpiiahljaa

/- Numbers put into a set, or taken out of it: the specification's l05Put, SetAdd, SetDrop. -/
namespace Go.Proofs.Ytgdndjpiiahljaa
open Go.RowKit
open Plain
set_option linter.unusedVariables false

namespace Plain
end Plain

end Go.Proofs.Ytgdndjpiiahljaa
