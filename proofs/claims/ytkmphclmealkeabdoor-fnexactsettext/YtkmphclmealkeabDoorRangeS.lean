/- Rows of ranges: what the laws' own helpers do to them; one that came in, opened. -/
import Derived.Test.YtkmphclmealkeabDoorProg
import Derived.Test.YtkmphclmealkeabDoorOwn
import Derived.Test.YtkmphclmealkeabDoorRangePlain
import Derived.Deep.Slices
import Derived.Deep.Strs
import Derived.ChangeArms
import Derived.OpenShut
import Derived.Deep.RegionHeld3
import Derived.Deep.QuietTactic
import Derived.BigQuiet
import Derived.WalkSmall
namespace Go.Proofs.YtkmphclmealkeabDoor
open Go.RowKit Go.ChangeShapes Go.WideShapes Go.ChangeAt Go.Deep
open Plain
set_option linter.unusedVariables false

theorem Tryd.infoRange : (Tryd.prog.info? 32).map (fun i => (i.zero, i.size, i.bytes)) = some (some (.agg #[.int .i64 0, .int .i64 0]), 2, 16) := by kernel_rfl
def OwnR (B : Nat) (w : World) (v : Value) (l : List Rg) : Prop := w.ownsRow B 32 2 v l.length (rgs l)
theorem OwnR.up {B : Nat} {w w' : World} {v : Value} {l : List Rg} (h : OwnR B w v l) (hb : Below w.heap.size w w') : OwnR B w' v l := g_stays h hb

theorem rg_cells {w : World} {B g n cap : Nat} {l : List Rg} (h : w.ownsRow B 32 2 (.slice (some ⟨g, 0, none⟩) n cap) n (rgs l)) {k : Nat} {f : Rg} (hx : l[k]? = some f) (hk : k < n) :
    w.cell? ⟨g, k * 2, none⟩ = some (.int .i64 f.lo) ∧ w.cell? ⟨g, k * 2 + 1, none⟩ = some (.int .i64 f.hi) := by
  refine ⟨?_, ?_⟩
  · rw [h.cellAt _ (by omega), rgs_0 hx]
  · rw [h.cellAt _ (by omega), rgs_1 hx]

/-- Ranges that can be read in a row. -/
def ReadR (w : World) (v : Value) (l : List Rg) : Prop := ∃ a c, v = .slice a l.length c ∧ ∀ (k : Nat) (x : Rg), l[k]? = some x →
  ∃ g, a = some ⟨g, 0, none⟩ ∧ g < w.heap.size ∧ w.cell? ⟨g, k * 2, none⟩ = some (.int .i64 x.lo) ∧ w.cell? ⟨g, k * 2 + 1, none⟩ = some (.int .i64 x.hi)
theorem OwnR.read {B : Nat} {w : World} {v : Value} {l : List Rg} (h : OwnR B w v l) : ReadR w v l := by
  unfold OwnR at h
  rcases h.2 with ⟨rfl, h0⟩ | ⟨g, c, cur, rfl, hb, hh, hlc, _⟩
  · refine ⟨none, 0, by rw [h0], fun k x hx => ?_⟩
    rw [List.eq_nil_of_length_eq_zero h0] at hx
    simp at hx
  · refine ⟨_, _, rfl, fun k x hx => ⟨g, rfl, (h.lt _ rfl).2, ?_⟩⟩
    exact rg_cells h hx (List.getElem?_eq_some_iff.1 hx).1
theorem ReadR.up {w w' : World} {v : Value} {l : List Rg} (h : ReadR w v l) (hb : Below w.heap.size w w') : ReadR w' v l := by
  obtain ⟨a, c, hv, hc⟩ := h
  refine ⟨a, c, hv, fun k x hx => ?_⟩
  obtain ⟨g, hg, hl, c0, c1⟩ := hc k x hx
  exact ⟨g, hg, Nat.lt_of_lt_of_le hl hb.size, g_cell hb c0, g_cell hb c1⟩

/-- Ranges that came in, below block B. -/
def ArgR (B : Nat) (w : World) (a : Option Addr) (l : List Rg) : Prop :=
  ∀ i f, l[i]? = some f → ∃ x, a = some x ∧ x.block < B ∧ w.cell? (x.add (i * 2)) = some (.int .i64 f.lo) ∧ w.cell? ⟨(x.add (i * 2)).block, (x.add (i * 2)).off + 1, none⟩ = some (.int .i64 f.hi)
theorem ArgR.below {B : Nat} {w w' : World} {a : Option Addr} {l : List Rg} (h : ArgR B w a l) (hb : Below B w w') : ArgR B w' a l := by
  intro i f hf
  obtain ⟨x, h1, h2, c0, c1⟩ := h i f hf
  have hb' : (x.add (i * 2)).block < B := by rw [g_add]; exact h2
  exact ⟨x, h1, h2, (hb.cell hb').trans c0, (hb.cell (p := ⟨(x.add (i * 2)).block, _, none⟩) hb').trans c1⟩
theorem ArgR.up {w w' : World} {a : Option Addr} {l : List Rg} (h : ArgR w.heap.size w a l) (hb : Below w.heap.size w w') : ArgR w'.heap.size w' a l := by
  intro i f hf
  obtain ⟨x, h1, h2, h3⟩ := h.below hb i f hf
  exact ⟨x, h1, Nat.lt_of_lt_of_le h2 hb.size, h3⟩

theorem toRange_any (x : Rg) (w : World) :
    Calls Tryd.prog 11 #[.agg #[.int .i64 x.lo, .int .i64 x.hi]] w fun e w' => e = .returned (.agg #[.int .i64 x.lo, .int .i64 x.hi]) ∧ Below w.heap.size w w' := by
  obtain ⟨p, q⟩ := x
  go_enter Tryd.func11, Tryd.ntmps11
  go_wp2
  go_returns
  refine ⟨rfl, ?_⟩
  go_grown
theorem eqRange_same (x : Rg) (w : World) :
    Calls Tryd.prog 15 #[.agg #[.int .i64 x.lo, .int .i64 x.hi], .agg #[.int .i64 x.lo, .int .i64 x.hi]] w fun e w' => e = .returned (.bool true) ∧ Below w.heap.size w w' := by
  obtain ⟨p, q⟩ := x
  go_enter Tryd.func15, Tryd.ntmps15
  go_wp2
  go_ret
  refine ⟨rfl, ?_⟩
  go_grown

theorem szRangeS_any (a : Option Addr) (cap n L : Nat) (w : World) (hL : L ≤ 1048576) (hm : n ≤ maxLen) :
    Calls Tryd.prog 4 #[.slice a n cap, .int .i64 (L : Int)] w fun e w' => (∃ m : Int, e = .returned (.int .i64 m) ∧ (m = -1 ∨ ∃ q : Nat, m = (q : Int) ∧ q ≤ 1048576 ∧ n ≤ L)) ∧ w' = w := by
  unfold maxLen at hm
  by_cases hs : n ≤ L
  · have hs' : (n : Int) ≤ (L : Int) := by omega
    go_enter Tryd.func4, Tryd.ntmps4
    go_wp2
    go_ret
    exact ⟨⟨_, rfl, .inr ⟨L - n, by omega, by omega, hs⟩⟩, rfl⟩
  · have hs' : (L : Int) < (n : Int) := by omega
    go_enter Tryd.func4, Tryd.ntmps4
    go_wp2
    go_ret
    exact ⟨⟨_, rfl, .inl rfl⟩, rfl⟩

theorem made_ranges (n : Nat) : (madeCells (Value.agg #[.int .i64 0, .int .i64 0]).cells (n * 2)).toList = rgs (List.replicate n rg0) := by
  apply List.ext_getElem?
  intro i
  obtain ⟨q, j, rfl, hj⟩ : ∃ q j, i = q * 2 + j ∧ j < 2 := ⟨i / 2, i % 2, by omega, Nat.mod_lt _ (by omega)⟩
  by_cases hq : q < n
  · rw [rgs_get _ q rg0 (by simp [hq]) j hj]
    have e1 : (q * 2 + j) % 2 = j := by omega
    have hm : q * 2 + j < n * 2 := by omega
    rw [Array.getElem?_toList, madeCells, Array.getElem?_map, Array.getElem?_eq_getElem (by simp; omega), Array.getElem_range, Option.map_some]
    show some (#[Value.int .i64 0, .int .i64 0][(q * 2 + j) % 2]!) = _
    rw [e1]
    match j, hj with
    | 0, _ => simp [rgl, rg0]
    | 1, _ => simp [rgl, rg0]
  · rw [List.getElem?_eq_none (by simp [madeCells]; omega), List.getElem?_eq_none (by simp [rgs_length]; omega)]

set_option maxHeartbeats 1000000 in
theorem toRangeS_any (a : Option Addr) (cap : Nat) (l : List Rg) (w : World) (hs : l.length ≤ 1048576) (h : ArgR w.heap.size w a l) :
    Calls Tryd.prog 6 #[.slice a l.length cap] w fun e w' => ∃ v, e = .returned v ∧ OwnR w.heap.size w' v l ∧ Below w.heap.size w w' := by
  obtain ⟨i0, hi, hz0, hz1, hz2⟩ := info_parts Tryd.infoRange
  have HA := hide h
  clear h
  go_enter Tryd.func6, Tryd.ntmps6
  go_wp2_with (refine wpList_make_full _ rfl _ _ 25 rfl w.heap.size 32 i0 _ 2 Tryd.underlying25 hi hz0 hz1 .i64 .i64 _ _ l.length rfl rfl rfl rfl (by rw [hz2]; omega) (by unfold maxLen; omega) (Nat.le_refl _) ?_; intro wm hown hgm)
  rw [made_ranges] at hown
  have hgl : w.heap.size < wm.heap.size := (hown.lt _ rfl).2
  go_loopw [4] (fun i wr => ∃ k : Nat, k ≤ l.length ∧ i = .int .i64 k ∧ wr.ownsRow w.heap.size 32 2 (.slice (some ⟨w.heap.size, 0, none⟩) l.length l.length) l.length (rgs (laidR l k)) ∧ Below w.heap.size w wr) (fun i _ => l.length - (intOf i).toNat)
  case atStart => exact ⟨0, Nat.zero_le _, rfl, by rw [laidR_zero]; exact hown, g_below hgm⟩
  case round =>
    obtain ⟨k, hk, rfl, hownk, hbel⟩ := hrel
    clear hown
    by_cases hlt : k < l.length
    · obtain ⟨x, rfl, hxb, c0, c1⟩ := (unhide HA).below hbel k l[k] (List.getElem?_eq_getElem hlt)
      have hset := hide (laidR_set l k hlt)
      have hll := hide (laidR_length l k hk)
      generalize l[k] = f at *
      have HT := hide (fun wx => toRange_any f wx)
      have hgr : w.heap.size < wr.heap.size := (hownk.lt _ rfl).2
      have OK := hide hownk
      clear hownk
      go_wp2_with fail
      refine (unhide HT _).mono ?_
      rintro e w1 ⟨rfl, hb1⟩
      have own1 : w1.ownsRow w.heap.size 32 2 (.slice (some ⟨w.heap.size, 0, none⟩) l.length l.length) l.length (rgs (laidR l k)) := g_stays (unhide OK) hb1
      have f0 := own1.frozenAt (k * 2)
      have f1 := own1.frozenAt (k * 2 + 1)
      have hget : (laidR l k)[k]? = some ((laidR l k)[k]'(by rw [unhide hll]; exact hlt)) := List.getElem?_eq_getElem _
      obtain ⟨d0, d1⟩ := rg_cells own1 hget hlt
      generalize (laidR l k)[k]'(by rw [unhide hll]; exact hlt) = f' at *
      have hst0 := own1.stored (k * 2) (.int .i64 f.lo)
      have hst1 := hst0.1.stored (k * 2 + 1) (.int .i64 f.hi)
      rw [rgs_set _ _ _ (by rw [unhide hll]; exact hlt), unhide hset] at hst1
      have HST := hide hst1.1
      have hB := hide (((below2 hbel hb1).setCell (p := ⟨w.heap.size, k * 2, none⟩) (Nat.le_refl _) (.int .i64 f.lo)).setCell (p := ⟨w.heap.size, k * 2 + 1, none⟩) (Nat.le_refl _) (.int .i64 f.hi))
      clear own1 hst0 hst1
      go_wp2
      go_roundw
      case rel => exact ⟨k + 1, by omega, by go_num, unhide HST, unhide hB⟩
      case measure => simp [intOf]; omega
    · have e : k = l.length := by omega
      subst e
      rw [laidR_all] at hownk
      go_wp2
      go_ret
      exact ⟨_, rfl, hownk, hbel⟩

theorem Tryd.cellsLRange : Tryd.prog.cellsOf 34 = 2 := by kernel_rfl
theorem Tryd.cellsIntR : Tryd.prog.cellsOf 3 = 1 := by kernel_rfl

set_option maxRecDepth 100000 in
theorem open_ranges {H : Type} {enc : TypeId × Value → H} {W : World} {base : Nat} {v : Value} {d : DataW H} {ps : List MemPlace} (hval : Value.okWide Tryd.prog W .any base 22 v)
    (h : DataW.Trod enc Tryd.prog W 0 (fun _ => true) true 22 v d ps) :
    ∃ (a : Option Addr) (cap : Nat) (l : List Rg), v = .slice a l.length cap ∧ l.length ≤ maxLen ∧ ArgR W.heap.size W a l := by
  obtain ⟨va, vn, vc, rfl⟩ := okWide_slice Tryd.underlying22 hval
  obtain ⟨fuel, hf⟩ := h
  rcases open_slice Tryd.underlying22 hf with ⟨hcs, _⟩ | ⟨a, len, cap, m, n, D, Pl, hcs, _, hlc, hcm, hm, _, hel⟩
  · simp [Value.cells] at hcs
    obtain ⟨rfl, rfl, rfl⟩ := hcs
    exact ⟨none, 0, [], rfl, Nat.zero_le _, fun i f hf => by simp at hf⟩
  · simp [Value.cells] at hcs
    obtain ⟨rfl, rfl, rfl⟩ := hcs
    have hm' : m = vc := by simpa using hm
    have each : ∀ i, i < vn → ∃ f : Rg, W.cell? (a.add (i * 2)) = some (.int .i64 f.lo) ∧ W.cell? ⟨(a.add (i * 2)).block, (a.add (i * 2)).off + 1, none⟩ = some (.int .i64 f.hi) := by
      intro i hi
      obtain ⟨cs', h1, h2⟩ := hel i (by omega)
      rw [Tryd.cellsLRange] at h1
      obtain ⟨_, hlen, hc⟩ := World.cells?_some h1
      obtain ⟨xs, n', _, _, hl', hlen', hfld⟩ := DataW.trod_struct Tryd.underlying34 h2
      match cs', hlen with
      | [u0, u1], _ =>
        have h0 := hfld 0 _ rfl
        have h1' := hfld 1 _ rfl
        match xs, hlen' with
        | [y0, y1], _ =>
          obtain ⟨k0, e0, _, b0⟩ := DataW.trod_int Tryd.underlying3 h0
          obtain ⟨k1, e1, _, b1⟩ := DataW.trod_int Tryd.underlying3 h1'
          simp at e0 e1
          rw [Tryd.cellsIntR] at e0 e1
          simp at e0 e1
          subst e0 e1
          have c0 := hc 0 (by simp)
          have c1 := hc 1 (by simp)
          rw [show ∀ y : Addr, y.add 1 = ⟨y.block, y.off + 1, none⟩ from fun y => by simp [Addr.add]] at c1
          refine ⟨⟨k0, k1⟩, ?_, c1⟩
          simpa [Addr.add] using c0
    have inh : Inhabited Rg := ⟨rg0⟩
    obtain ⟨F, hF⟩ := choose_lt (α := Rg) each
    refine ⟨some a, vc, (List.range vn).map F, by simp, by simp; omega, fun i f hf => ?_⟩
    have hi : i < vn := by
      rcases Nat.lt_or_ge i vn with h1 | h1
      · exact h1
      · rw [List.getElem?_eq_none (by simpa using h1)] at hf; cases hf
    obtain rfl : F i = f := by simpa [hi] using hf
    obtain ⟨c0, c1⟩ := hF i hi
    refine ⟨a, rfl, ?_, c0, c1⟩
    have := World.block_lt_of_cell? W _ c0
    rwa [g_add] at this
end Go.Proofs.YtkmphclmealkeabDoor
