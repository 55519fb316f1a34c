/- Rows of Seens: what the laws' own helpers do to them; rows that came in. Made by gen_rows.py. -/
import Derived.Test.YtgdndjpiiahljaaProg
import Derived.Test.YtgdndjpiiahljaaRowsA
import Derived.Test.YtgdndjpiiahljaaRegA
import Derived.Deep.Slices
import Derived.Deep.Strs
import Derived.ChangeArms
import Derived.OpenShut
import Derived.Deep.RegionHeld3
import Derived.Deep.QuietTactic
import Derived.BigQuiet
import Derived.WalkSmall
namespace Go.Proofs.Ytgdndjpiiahljaa
open Go.RowKit Go.ChangeShapes Go.WideShapes Go.ChangeAt Go.Deep
open Plain
set_option linter.unusedVariables false
set_option linter.unusedSimpArgs false

namespace Plain
structure Sn where
 uid : Int
 flags : Int
 mod : Int
def snC (x : Sn) : List Value := [.int .i64 x.uid, .int .i64 x.flags, .int .i64 x.mod]
theorem snC_len : ∀ x, (snC x).length = 3 := fun _ => rfl
def sn0 : Sn := ⟨0, 0, 0⟩
end Plain
theorem Try.infoSeen : (Try.prog.info? 34).map (fun i => (i.zero, i.size, i.bytes)) = some (some (.agg #[.int .i64 0, .int .i64 0, .int .i64 0]), 3, 24) := by kernel_rfl
def OwnSn (B : Nat) (w : World) (v : Value) (l : List Sn) : Prop := w.ownsRow B 34 3 v l.length (rowC snC l)
theorem OwnSn.up {B : Nat} {w w' : World} {v : Value} {l : List Sn} (h : OwnSn B w v l) (hb : Below w.heap.size w w') : OwnSn B w' v l := g_stays h hb
theorem OwnSn.based {B B' : Nat} {w : World} {v : Value} {l : List Sn} (h : OwnSn B w v l) (hB : B' ≤ B) : OwnSn B' w v l := g_based h hB
theorem sn_cells {w : World} {B g n cap : Nat} {l : List Sn} (h : w.ownsRow B 34 3 (.slice (some ⟨g, 0, none⟩) n cap) n (rowC snC l)) {k : Nat} {f : Sn} (hx : l[k]? = some f) (hk : k < n) :
  w.cell? ⟨g, k * 3, none⟩ = some (.int .i64 f.uid) ∧ w.cell? ⟨g, k * 3 + 1, none⟩ = some (.int .i64 f.flags) ∧ w.cell? ⟨g, k * 3 + 2, none⟩ = some (.int .i64 f.mod) := by
 refine ⟨?_, ?_, ?_⟩
 ·rw [h.cellAt _ (by omega)]; exact rowC_get snC_len hx (j := 0) (by decide)
 ·rw [h.cellAt _ (by omega)]; exact rowC_get snC_len hx (j := 1) (by decide)
 ·rw [h.cellAt _ (by omega)]; exact rowC_get snC_len hx (j := 2) (by decide)
/-- Elements that came in, below block B. -/
def ArgSn (B : Nat) (w : World) (a : Option Addr) (l : List Sn) : Prop :=
 ∀ i f, l[i]? = some f → ∃ x, a = some x ∧ x.block < B ∧ w.cell? (x.add (i * 3)) = some (.int .i64 f.uid) ∧ w.cell? ⟨(x.add (i * 3)).block, (x.add (i * 3)).off + 1, none⟩ = some (.int .i64 f.flags) ∧ w.cell? ⟨(x.add (i * 3)).block, (x.add (i * 3)).off + 2, none⟩ = some (.int .i64 f.mod)
theorem ArgSn.below {B : Nat} {w w' : World} {a : Option Addr} {l : List Sn} (h : ArgSn B w a l) (hb : Below B w w') : ArgSn B w' a l := by
 intro i f hf
 obtain ⟨x, h1, h2, c0, c1, c2⟩ := h i f hf
 have hb2 : (x.add (i * 3)).block < B := by rw [g_add]; exact h2
 exact ⟨x, h1, h2, (hb.cell hb2).trans c0, (hb.cell (p := ⟨(x.add (i * 3)).block, _, none⟩) hb2).trans c1, (hb.cell (p := ⟨(x.add (i * 3)).block, _, none⟩) hb2).trans c2⟩
theorem ArgSn.up {w w' : World} {a : Option Addr} {l : List Sn} (h : ArgSn w.heap.size w a l) (hb : Below w.heap.size w w') : ArgSn w'.heap.size w' a l := by
 intro i f hf
 obtain ⟨x, h1, h2, h3⟩ := h.below hb i f hf
 exact ⟨x, h1, Nat.lt_of_lt_of_le h2 hb.size, h3⟩

set_option maxHeartbeats 1000000 in
theorem toSeen_any (uid : Int) (flags : Int) (mod : Int) (w : World) :
  Calls Try.prog 41 #[.agg #[.int .i64 uid, .int .i64 flags, .int .i64 mod]] w fun e w' => e = .returned (.agg #[.int .i64 uid, .int .i64 flags, .int .i64 mod]) ∧ Below w.heap.size w w' := by
 go_enter Try.func41, Try.ntmps41
 go_wp2
 go_returns
 refine ⟨rfl, ?_⟩
 go_grown
set_option maxHeartbeats 1000000 in
theorem eqSeen_same (uid : Int) (flags : Int) (mod : Int) (w : World) :
  Calls Try.prog 42 #[.agg #[.int .i64 uid, .int .i64 flags, .int .i64 mod], .agg #[.int .i64 uid, .int .i64 flags, .int .i64 mod]] w fun e w' => e = .returned (.bool true) ∧ Below w.heap.size w w' := by
 go_enter Try.func42, Try.ntmps42
 go_wp2
 go_ret
 refine ⟨rfl, ?_⟩
 go_grown

theorem szSeenS_any (a : Option Addr) (cap n L : Nat) (w : World) (hL : L ≤ 1048576) (hm : n ≤ maxLen) :
  Calls Try.prog 17 #[.slice a n cap, .int .i64 (L : Int)] w fun e w' => (∃ m : Int, e = .returned (.int .i64 m) ∧ (m = -1 ∨ ∃ q : Nat, m = (q : Int) ∧ q ≤ L ∧ n ≤ L)) ∧ w' = w := by
 unfold maxLen at hm
 by_cases hs : n ≤ L
 ·have hs' : (n : Int) ≤ (L : Int) := by omega
  go_enter Try.func17, Try.ntmps17
  go_wp2
  go_ret
  exact ⟨⟨_, rfl, .inr ⟨L - n, by omega, by omega, hs⟩⟩, rfl⟩
 ·have hs' : (L : Int) < (n : Int) := by omega
  go_enter Try.func17, Try.ntmps17
  go_wp2
  go_ret
  exact ⟨⟨_, rfl, .inl rfl⟩, rfl⟩

set_option maxHeartbeats 1000000 in
set_option maxRecDepth 100000 in
theorem toSeenS_any (a : Option Addr) (cap : Nat) (l : List Sn) (w : World) (hs : l.length ≤ 1048576) (h : ArgSn w.heap.size w a l) :
  Calls Try.prog 18 #[.slice a l.length cap] w fun e w' => ∃ v, e = .returned v ∧ OwnSn w.heap.size w' v l ∧ Below w.heap.size w w' := by
 obtain ⟨i0, hi, hz0, hz1, hz2⟩ := info_parts Try.infoSeen
 have HA := hide h; clear h
 go_enter Try.func18, Try.ntmps18
 go_wp2_with (refine wpList_make_full _ rfl _ _ 24 rfl w.heap.size 34 i0 _ 3 Try.underlying24 hi hz0 hz1 .i64 .i64 _ _ l.length rfl rfl rfl rfl (by rw [hz2]; omega) (by unfold maxLen; omega) (Nat.le_refl _) ?_; intro wm hown hgm)
 rw [rowC_made snC_len (by decide) (a0 := sn0) rfl] at hown
 have hgl : w.heap.size < wm.heap.size := (hown.lt _ rfl).2
 go_loopw [4] (fun i wr => ∃ k : Nat, k ≤ l.length ∧ i = .int .i64 k ∧ wr.ownsRow w.heap.size 34 3 (.slice (some ⟨w.heap.size, 0, none⟩) l.length l.length) l.length (rowC snC (laidK sn0 l k)) ∧ Below w.heap.size w wr) (fun i _ => l.length - (intOf i).toNat)
 case atStart => exact ⟨0, Nat.zero_le _, rfl, by rw [laidK_zero]; exact hown, g_below hgm⟩
 case round =>
  obtain ⟨k, hk, rfl, hownk, hbel⟩ := hrel
  clear hown
  by_cases hlt : k < l.length
  ·obtain ⟨x, rfl, hxb, c0, c1, c2⟩ := (uh HA).below hbel k l[k] (List.getElem?_eq_getElem hlt)
   have hset := hide (laidK_set sn0 hlt); have hget := laidK_at sn0 hlt
   generalize l[k] = f at *
   have HT := hide (fun wx => toSeen_any f.uid f.flags f.mod wx)
   have hgr : w.heap.size < wr.heap.size := (hownk.lt _ rfl).2
   have OK := hide hownk; have HG := hide hget; clear hownk hget; go_wp2_with fail
   refine (uh HT _).mono ?_
   rintro e w1 ⟨rfl, hb1⟩
   have hget := uh HG
   have own1 : w1.ownsRow w.heap.size 34 3 (.slice (some ⟨w.heap.size, 0, none⟩) l.length l.length) l.length (rowC snC (laidK sn0 l k)) := g_stays (uh OK) hb1
   have f0 := own1.frozenAt (k * 3); have f1 := own1.frozenAt (k * 3 + 1); have f2 := own1.frozenAt (k * 3 + 2)
   obtain ⟨d0, d1, d2⟩ := sn_cells own1 hget hlt
   have st0 := own1.stored (k * 3) (.int .i64 f.uid)
   rw [show k * 3 = k * 3 + 0 from rfl, rowC_set snC_len hget (j := 0) (by decide) ⟨f.uid, sn0.flags, sn0.mod⟩ (.int .i64 f.uid) rfl] at st0
   have st1 := st0.1.stored (k * 3 + 1) (.int .i64 f.flags)
   rw [rowC_set2 snC_len hget ⟨f.uid, sn0.flags, sn0.mod⟩ (j := 1) (by decide) ⟨f.uid, f.flags, sn0.mod⟩ (.int .i64 f.flags) rfl] at st1
   have st2 := st1.1.stored (k * 3 + 2) (.int .i64 f.mod)
   rw [rowC_set2 snC_len hget ⟨f.uid, f.flags, sn0.mod⟩ (j := 2) (by decide) ⟨f.uid, f.flags, f.mod⟩ (.int .i64 f.mod) rfl] at st2
   rw [show (⟨f.uid, f.flags, f.mod⟩ : Sn) = f from rfl, uh hset] at st2
   have HST := hide st2.1
   have hB := hide ((((below2 hbel hb1).setCell (p := ⟨w.heap.size, k * 3, none⟩) (Nat.le_refl _) (.int .i64 f.uid)).setCell (p := ⟨w.heap.size, k * 3 + 1, none⟩) (Nat.le_refl _) (.int .i64 f.flags)).setCell (p := ⟨w.heap.size, k * 3 + 2, none⟩) (Nat.le_refl _) (.int .i64 f.mod))
   clear own1 hget st0 st1 st2
   go_wp2
   go_roundw
   case rel => exact ⟨k + 1, by omega, by go_num, uh HST, uh hB⟩
   case measure => simp [intOf]; omega
  ·have e : k = l.length := by omega
   subst e
   rw [laidK_all] at hownk
   go_wp2
   go_ret
   exact ⟨_, rfl, hownk, hbel⟩

theorem Try.cellsLSeen : Try.prog.cellsOf 69 = 3 := by kernel_rfl
theorem Try.cellsSeenInt : Try.prog.cellsOf 3 = 1 := by kernel_rfl

set_option maxRecDepth 100000 in
/-- A row of cells, as a slice's field may hold it. -/
theorem open_sn {H : Type} {enc : TypeId × Value → H} {W : World} {base : Nat} {sp : Nat → Bool} {held : Bool} {fuel : Nat} {cs : List Value} {x : DataW H × List MemPlace}
  (hf : DataW.trod enc Try.prog W base sp held fuel 44 cs = some x) :
  ∃ (a : Option Addr) (cap : Nat) (l : List Sn), cs = [.slice a l.length cap] ∧ l.length ≤ maxLen ∧ ArgSn W.heap.size W a l := by
 rcases open_slice Try.underlying44 hf with ⟨hcs, _⟩ | ⟨a, vn, cap, m, n, D, Pl, hcs, _, hlc, hcm, hm, _, hel⟩
 ·exact ⟨none, 0, [], hcs, Nat.zero_le _, fun i f hf => by simp at hf⟩
 ·subst hcs
  have hm' : vn ≤ m := by rw [hm]; split <;> omega
  have each : ∀ i, i < vn → ∃ f : Sn, W.cell? (a.add (i * 3)) = some (.int .i64 f.uid) ∧ W.cell? ⟨(a.add (i * 3)).block, (a.add (i * 3)).off + 1, none⟩ = some (.int .i64 f.flags) ∧ W.cell? ⟨(a.add (i * 3)).block, (a.add (i * 3)).off + 2, none⟩ = some (.int .i64 f.mod) := by
   intro i hi
   obtain ⟨cs', h1, h2⟩ := hel i (by omega)
   rw [Try.cellsLSeen] at h1
   obtain ⟨_, hlen, hc⟩ := World.cells?_some h1
   obtain ⟨xs, n', _, _, hl', hlen', hfld⟩ := DataW.trod_struct Try.underlying69 h2
   match cs', hlen with
   | [u0, u1, u2], _ =>
    have h10 := hfld 0 _ rfl; have h11 := hfld 1 _ rfl; have h12 := hfld 2 _ rfl
    match xs, hlen' with
    | [y0, y1, y2], _ =>
     obtain ⟨k0, e0, _, b0⟩ := DataW.trod_int Try.underlying3 h10
     obtain ⟨k1, e1, _, b1⟩ := DataW.trod_int Try.underlying3 h11
     obtain ⟨k2, e2, _, b2⟩ := DataW.trod_int Try.underlying3 h12
     simp [Try.cellsSeenInt] at e0
     simp [Try.cellsSeenInt] at e1
     simp [Try.cellsSeenInt] at e2
     subst e0 e1 e2
     have c0 := hc 0 (by simp)
     have c1 := hc 1 (by simp)
     have c2 := hc 2 (by simp)
     rw [show ∀ y : Addr, y.add 1 = ⟨y.block, y.off + 1, none⟩ from fun y => by simp [Addr.add]] at c1
     rw [show ∀ y : Addr, y.add 2 = ⟨y.block, y.off + 2, none⟩ from fun y => by simp [Addr.add]] at c2
     refine ⟨⟨k0, k1, k2⟩, ?_, c1, c2⟩
     simpa [Addr.add] using c0
  have inh : Inhabited Sn := ⟨sn0⟩
  obtain ⟨F, hF⟩ := choose_lt (α := Sn) each
  refine ⟨some a, cap, (List.range vn).map F, by simp, by simp; omega, fun i f hf => ?_⟩
  have hi : i < vn := by
   rcases Nat.lt_or_ge i vn with h1 | h1
   ·exact h1
   ·rw [List.getElem?_eq_none (by simpa using h1)] at hf; cases hf
  obtain rfl : F i = f := by simpa [hi] using hf
  obtain ⟨c0, c1, c2⟩ := hF i hi
  refine ⟨a, rfl, ?_, c0, c1, c2⟩
  have := World.block_lt_of_cell? W _ c0
  rwa [g_add] at this
end Go.Proofs.Ytgdndjpiiahljaa
