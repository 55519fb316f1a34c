/- Several texts in one: RangeS, SetS, SetBits, SetRuns, SetPut. Made by fuse_tl.py. -/
import Derived.Test.YtihdgfihdecalaaGreatDoorProg
import Derived.Test.YtihdgfihdecalaaGreatDoorRowsA
import Derived.Test.YtihdgfihdecalaaGreatDoorPlainA
import Derived.Deep.Slices
import Derived.Deep.Strs
import Derived.ChangeArms
import Derived.OpenShut
import Derived.Deep.RegionHeld3
import Derived.Deep.QuietTactic
import Derived.BigQuiet
import Derived.WalkSmall
import Derived.Deep.AppendLies
import Derived.Deep.AppendSrc
/- Rows of ranges: what the laws' own helpers do to them; one that came in, opened. -/
namespace Go.Proofs.YtihdgfihdecalaaGreatDoor
open Go.RowKit Go.ChangeShapes Go.WideShapes Go.ChangeAt Go.Deep
open Plain
set_option linter.unusedVariables false

theorem Tryz.infoRange : (Tryz.prog.info? 60).map (fun i => (i.zero, i.size, i.bytes)) = some (some (.agg #[.int .i64 0, .int .i64 0]), 2, 16) := by kernel_rfl
def OwnR (B : Nat) (w : World) (v : Value) (l : List Rg) : Prop := w.ownsRow B 60 2 v l.length (rgs l)
theorem OwnR.up {B : Nat} {w w' : World} {v : Value} {l : List Rg} (h : OwnR B w v l) (hb : Below w.heap.size w w') : OwnR B w' v l := g_stays h hb

theorem rg_cells {w : World} {B g n cap : Nat} {l : List Rg} (h : w.ownsRow B 60 2 (.slice (some ⟨g, 0, none⟩) n cap) n (rgs l)) {k : Nat} {f : Rg} (hx : l[k]? = some f) (hk : k < n) :
    w.cell? ⟨g, k * 2, none⟩ = some (.int .i64 f.lo) ∧ w.cell? ⟨g, k * 2 + 1, none⟩ = some (.int .i64 f.hi) := by
  refine ⟨?_, ?_⟩
  · rw [h.cellAt _ (by omega), rgs_0 hx]
  · rw [h.cellAt _ (by omega), rgs_1 hx]

/-- Ranges that can be read in a row. -/
def ReadR (w : World) (v : Value) (l : List Rg) : Prop := ∃ a c, v = .slice a l.length c ∧ ∀ (k : Nat) (x : Rg), l[k]? = some x →
  ∃ g, a = some ⟨g, 0, none⟩ ∧ g < w.heap.size ∧ w.cell? ⟨g, k * 2, none⟩ = some (.int .i64 x.lo) ∧ w.cell? ⟨g, k * 2 + 1, none⟩ = some (.int .i64 x.hi)
theorem OwnR.read {B : Nat} {w : World} {v : Value} {l : List Rg} (h : OwnR B w v l) : ReadR w v l := by
  unfold OwnR at h
  rcases h.2 with ⟨rfl, h0⟩ | ⟨g, c, cur, rfl, hb, hh, hlc, _⟩
  · refine ⟨none, 0, by rw [h0], fun k x hx => ?_⟩
    rw [List.eq_nil_of_length_eq_zero h0] at hx
    simp at hx
  · refine ⟨_, _, rfl, fun k x hx => ⟨g, rfl, (h.lt _ rfl).2, ?_⟩⟩
    exact rg_cells h hx (List.getElem?_eq_some_iff.1 hx).1
theorem ReadR.up {w w' : World} {v : Value} {l : List Rg} (h : ReadR w v l) (hb : Below w.heap.size w w') : ReadR w' v l := by
  obtain ⟨a, c, hv, hc⟩ := h
  refine ⟨a, c, hv, fun k x hx => ?_⟩
  obtain ⟨g, hg, hl, c0, c1⟩ := hc k x hx
  exact ⟨g, hg, Nat.lt_of_lt_of_le hl hb.size, g_cell hb c0, g_cell hb c1⟩

/-- Ranges that came in, below block B. -/
def ArgR (B : Nat) (w : World) (a : Option Addr) (l : List Rg) : Prop :=
  ∀ i f, l[i]? = some f → ∃ x, a = some x ∧ x.block < B ∧ w.cell? (x.add (i * 2)) = some (.int .i64 f.lo) ∧ w.cell? ⟨(x.add (i * 2)).block, (x.add (i * 2)).off + 1, none⟩ = some (.int .i64 f.hi)
theorem ArgR.below {B : Nat} {w w' : World} {a : Option Addr} {l : List Rg} (h : ArgR B w a l) (hb : Below B w w') : ArgR B w' a l := by
  intro i f hf
  obtain ⟨x, h1, h2, c0, c1⟩ := h i f hf
  have hb' : (x.add (i * 2)).block < B := by rw [g_add]; exact h2
  exact ⟨x, h1, h2, (hb.cell hb').trans c0, (hb.cell (p := ⟨(x.add (i * 2)).block, _, none⟩) hb').trans c1⟩
theorem ArgR.up {w w' : World} {a : Option Addr} {l : List Rg} (h : ArgR w.heap.size w a l) (hb : Below w.heap.size w w') : ArgR w'.heap.size w' a l := by
  intro i f hf
  obtain ⟨x, h1, h2, h3⟩ := h.below hb i f hf
  exact ⟨x, h1, Nat.lt_of_lt_of_le h2 hb.size, h3⟩

theorem toRange_any (x : Rg) (w : World) :
    Calls Tryz.prog 30 #[.agg #[.int .i64 x.lo, .int .i64 x.hi]] w fun e w' => e = .returned (.agg #[.int .i64 x.lo, .int .i64 x.hi]) ∧ Below w.heap.size w w' := by
  obtain ⟨p, q⟩ := x
  go_enter Tryz.func30, Tryz.ntmps30
  go_wp2
  go_returns
  refine ⟨rfl, ?_⟩
  go_grown
theorem eqRange_same (x : Rg) (w : World) :
    Calls Tryz.prog 34 #[.agg #[.int .i64 x.lo, .int .i64 x.hi], .agg #[.int .i64 x.lo, .int .i64 x.hi]] w fun e w' => e = .returned (.bool true) ∧ Below w.heap.size w w' := by
  obtain ⟨p, q⟩ := x
  go_enter Tryz.func34, Tryz.ntmps34
  go_wp2
  go_ret
  refine ⟨rfl, ?_⟩
  go_grown

theorem szRangeS_any (a : Option Addr) (cap n L : Nat) (w : World) (hL : L ≤ 1048576) (hm : n ≤ maxLen) :
    Calls Tryz.prog 6 #[.slice a n cap, .int .i64 (L : Int)] w fun e w' => (∃ m : Int, e = .returned (.int .i64 m) ∧ (m = -1 ∨ ∃ q : Nat, m = (q : Int) ∧ q ≤ 1048576 ∧ n ≤ L)) ∧ w' = w := by
  unfold maxLen at hm
  by_cases hs : n ≤ L
  · have hs' : (n : Int) ≤ (L : Int) := by omega
    go_enter Tryz.func6, Tryz.ntmps6
    go_wp2
    go_ret
    exact ⟨⟨_, rfl, .inr ⟨L - n, by omega, by omega, hs⟩⟩, rfl⟩
  · have hs' : (L : Int) < (n : Int) := by omega
    go_enter Tryz.func6, Tryz.ntmps6
    go_wp2
    go_ret
    exact ⟨⟨_, rfl, .inl rfl⟩, rfl⟩

theorem made_ranges (n : Nat) : (madeCells (Value.agg #[.int .i64 0, .int .i64 0]).cells (n * 2)).toList = rgs (List.replicate n rg0) := by
  apply List.ext_getElem?
  intro i
  obtain ⟨q, j, rfl, hj⟩ : ∃ q j, i = q * 2 + j ∧ j < 2 := ⟨i / 2, i % 2, by omega, Nat.mod_lt _ (by omega)⟩
  by_cases hq : q < n
  · rw [rgs_get _ q rg0 (by simp [hq]) j hj]
    have e1 : (q * 2 + j) % 2 = j := by omega
    have hm : q * 2 + j < n * 2 := by omega
    rw [Array.getElem?_toList, madeCells, Array.getElem?_map, Array.getElem?_eq_getElem (by simp; omega), Array.getElem_range, Option.map_some]
    show some (#[Value.int .i64 0, .int .i64 0][(q * 2 + j) % 2]!) = _
    rw [e1]
    match j, hj with
    | 0, _ => simp [rgl, rg0]
    | 1, _ => simp [rgl, rg0]
  · rw [List.getElem?_eq_none (by simp [madeCells]; omega), List.getElem?_eq_none (by simp [rgs_length]; omega)]

set_option maxHeartbeats 1000000 in
theorem toRangeS_any (a : Option Addr) (cap : Nat) (l : List Rg) (w : World) (hs : l.length ≤ 1048576) (h : ArgR w.heap.size w a l) :
    Calls Tryz.prog 9 #[.slice a l.length cap] w fun e w' => ∃ v, e = .returned v ∧ OwnR w.heap.size w' v l ∧ Below w.heap.size w w' := by
  obtain ⟨i0, hi, hz0, hz1, hz2⟩ := info_parts Tryz.infoRange
  have HA := hide h
  clear h
  go_enter Tryz.func9, Tryz.ntmps9
  go_wp2_with (refine wpList_make_full _ rfl _ _ 36 rfl w.heap.size 60 i0 _ 2 Tryz.underlying36 hi hz0 hz1 .i64 .i64 _ _ l.length rfl rfl rfl rfl (by rw [hz2]; omega) (by unfold maxLen; omega) (Nat.le_refl _) ?_; intro wm hown hgm)
  rw [made_ranges] at hown
  have hgl : w.heap.size < wm.heap.size := (hown.lt _ rfl).2
  go_loopw [4] (fun i wr => ∃ k : Nat, k ≤ l.length ∧ i = .int .i64 k ∧ wr.ownsRow w.heap.size 60 2 (.slice (some ⟨w.heap.size, 0, none⟩) l.length l.length) l.length (rgs (laidR l k)) ∧ Below w.heap.size w wr) (fun i _ => l.length - (intOf i).toNat)
  case atStart => exact ⟨0, Nat.zero_le _, rfl, by rw [laidR_zero]; exact hown, g_below hgm⟩
  case round =>
    obtain ⟨k, hk, rfl, hownk, hbel⟩ := hrel
    clear hown
    by_cases hlt : k < l.length
    · obtain ⟨x, rfl, hxb, c0, c1⟩ := (unhide HA).below hbel k l[k] (List.getElem?_eq_getElem hlt)
      have hset := hide (laidR_set l k hlt)
      have hll := hide (laidR_length l k hk)
      generalize l[k] = f at *
      have HT := hide (fun wx => toRange_any f wx)
      have hgr : w.heap.size < wr.heap.size := (hownk.lt _ rfl).2
      have OK := hide hownk
      clear hownk
      go_wp2_with fail
      refine (unhide HT _).mono ?_
      rintro e w1 ⟨rfl, hb1⟩
      have own1 : w1.ownsRow w.heap.size 60 2 (.slice (some ⟨w.heap.size, 0, none⟩) l.length l.length) l.length (rgs (laidR l k)) := g_stays (unhide OK) hb1
      have f0 := own1.frozenAt (k * 2)
      have f1 := own1.frozenAt (k * 2 + 1)
      have hget : (laidR l k)[k]? = some ((laidR l k)[k]'(by rw [unhide hll]; exact hlt)) := List.getElem?_eq_getElem _
      obtain ⟨d0, d1⟩ := rg_cells own1 hget hlt
      generalize (laidR l k)[k]'(by rw [unhide hll]; exact hlt) = f' at *
      have hst0 := own1.stored (k * 2) (.int .i64 f.lo)
      have hst1 := hst0.1.stored (k * 2 + 1) (.int .i64 f.hi)
      rw [rgs_set _ _ _ (by rw [unhide hll]; exact hlt), unhide hset] at hst1
      have HST := hide hst1.1
      have hB := hide (((below2 hbel hb1).setCell (p := ⟨w.heap.size, k * 2, none⟩) (Nat.le_refl _) (.int .i64 f.lo)).setCell (p := ⟨w.heap.size, k * 2 + 1, none⟩) (Nat.le_refl _) (.int .i64 f.hi))
      clear own1 hst0 hst1
      go_wp2
      go_roundw
      case rel => exact ⟨k + 1, by omega, by go_num, unhide HST, unhide hB⟩
      case measure => simp [intOf]; omega
    · have e : k = l.length := by omega
      subst e
      rw [laidR_all] at hownk
      go_wp2
      go_ret
      exact ⟨_, rfl, hownk, hbel⟩

theorem Tryz.cellsLRange : Tryz.prog.cellsOf 62 = 2 := by kernel_rfl
theorem Tryz.cellsIntR : Tryz.prog.cellsOf 3 = 1 := by kernel_rfl

set_option maxRecDepth 100000 in
theorem open_ranges {H : Type} {enc : TypeId × Value → H} {W : World} {base : Nat} {v : Value} {d : DataW H} {ps : List MemPlace} (hval : Value.okWide Tryz.prog W .any base 26 v)
    (h : DataW.Trod enc Tryz.prog W 0 (fun _ => true) true 26 v d ps) :
    ∃ (a : Option Addr) (cap : Nat) (l : List Rg), v = .slice a l.length cap ∧ l.length ≤ maxLen ∧ ArgR W.heap.size W a l := by
  obtain ⟨va, vn, vc, rfl⟩ := okWide_slice Tryz.underlying26 hval
  obtain ⟨fuel, hf⟩ := h
  rcases open_slice Tryz.underlying26 hf with ⟨hcs, _⟩ | ⟨a, len, cap, m, n, D, Pl, hcs, _, hlc, hcm, hm, _, hel⟩
  · simp [Value.cells] at hcs
    obtain ⟨rfl, rfl, rfl⟩ := hcs
    exact ⟨none, 0, [], rfl, Nat.zero_le _, fun i f hf => by simp at hf⟩
  · simp [Value.cells] at hcs
    obtain ⟨rfl, rfl, rfl⟩ := hcs
    have hm' : m = vc := by simpa using hm
    have each : ∀ i, i < vn → ∃ f : Rg, W.cell? (a.add (i * 2)) = some (.int .i64 f.lo) ∧ W.cell? ⟨(a.add (i * 2)).block, (a.add (i * 2)).off + 1, none⟩ = some (.int .i64 f.hi) := by
      intro i hi
      obtain ⟨cs', h1, h2⟩ := hel i (by omega)
      rw [Tryz.cellsLRange] at h1
      obtain ⟨_, hlen, hc⟩ := World.cells?_some h1
      obtain ⟨xs, n', _, _, hl', hlen', hfld⟩ := DataW.trod_struct Tryz.underlying62 h2
      match cs', hlen with
      | [u0, u1], _ =>
        have h0 := hfld 0 _ rfl
        have h1' := hfld 1 _ rfl
        match xs, hlen' with
        | [y0, y1], _ =>
          obtain ⟨k0, e0, _, b0⟩ := DataW.trod_int Tryz.underlying3 h0
          obtain ⟨k1, e1, _, b1⟩ := DataW.trod_int Tryz.underlying3 h1'
          simp at e0 e1
          rw [Tryz.cellsIntR] at e0 e1
          simp at e0 e1
          subst e0 e1
          have c0 := hc 0 (by simp)
          have c1 := hc 1 (by simp)
          rw [show ∀ y : Addr, y.add 1 = ⟨y.block, y.off + 1, none⟩ from fun y => by simp [Addr.add]] at c1
          refine ⟨⟨k0, k1⟩, ?_, c1⟩
          simpa [Addr.add] using c0
    have inh : Inhabited Rg := ⟨rg0⟩
    obtain ⟨F, hF⟩ := choose_lt (α := Rg) each
    refine ⟨some a, vc, (List.range vn).map F, by simp, by simp; omega, fun i f hf => ?_⟩
    have hi : i < vn := by
      rcases Nat.lt_or_ge i vn with h1 | h1
      · exact h1
      · rw [List.getElem?_eq_none (by simpa using h1)] at hf; cases hf
    obtain rfl : F i = f := by simpa [hi] using hf
    obtain ⟨c0, c1⟩ := hF i hi
    refine ⟨a, rfl, ?_, c0, c1⟩
    have := World.block_lt_of_cell? W _ c0
    rwa [g_add] at this
end Go.Proofs.YtihdgfihdecalaaGreatDoor

/- Sets of numbers, as the specification tells them: SetOk, SetHas, SetSize. -/
namespace Go.Proofs.YtihdgfihdecalaaGreatDoor
open Go.RowKit
open Plain
set_option linter.unusedVariables false

namespace Plain
theorem ok_snoc {s : List Rg} {k : Nat} {r : Rg} (hr : s[k]? = some r) : s.take (k + 1) = s.take k ++ [r] := by rw [List.take_add_one, hr]; rfl
theorem hasB_take {s : List Rg} {n : Int} {k : Nat} {r : Rg} (hr : s[k]? = some r) : hasB (s.take (k + 1)) n = (hasB (s.take k) n || (decide (r.lo ≤ n) && decide (n ≤ r.hi))) := by
  rw [ok_snoc hr, hasB_append, hasB_cons, hasB_nil, Bool.or_false]
theorem hasB_part {s : List Rg} {n : Int} (k : Nat) (h : hasB (s.take k) n = true) : hasB s n = true := by
  rw [← List.take_append_drop k s, hasB_append, h]; rfl
end Plain

set_option maxHeartbeats 2000000 in
set_option maxRecDepth 100000 in
theorem spec_SetHas_any (s : List Rg) (n : Int) (v : Value) (w : World) (hs : s.length ≤ 1048576) (h : ReadR w v s) :
    Calls Tryz.prog 26 #[v, .int .i64 n] w fun e w' => e = .returned (.bool (hasB s n)) ∧ w' = w := by
  obtain ⟨a, c, rfl, hc⟩ := h
  have C := hide hc
  clear hc
  go_enter Tryz.func26, Tryz.ntmps26
  go_wp2
  go_loop [5] (fun i => ∃ k : Nat, k ≤ s.length ∧ i = .int .i64 k ∧ hasB (s.take k) n = false) (fun i => s.length - (intOf i).toNat)
  case atStart => exact ⟨0, Nat.zero_le _, rfl, rfl⟩
  case round =>
    obtain ⟨k, hk, rfl, hno⟩ := hrel
    by_cases hlt : k < s.length
    · have hgk : s[k]? = some s[k] := List.getElem?_eq_getElem hlt
      obtain ⟨g, hga, hgl, c0, c1⟩ := unhide C k s[k] hgk
      subst hga
      have ST := hide (hasB_take (n := n) hgk)
      have PT := hide (fun h => hasB_part (s := s) (n := n) (k + 1) h)
      generalize s[k] = r at *
      obtain ⟨rl, rh⟩ := r
      simp only at c0 c1 ST
      rw [hno, Bool.false_or] at ST
      clear hno hgk
      by_cases h1 : rl ≤ n
      · have d1 : decide (rl ≤ n) = true := by simpa using h1
        by_cases h2 : n ≤ rh
        · have d2 : decide (n ≤ rh) = true := by simpa using h2
          have F := hide (unhide PT (by rw [unhide ST, d1, d2]; rfl))
          clear ST PT
          go_wp2
          go_ret
          exact ⟨by rw [unhide F]; rfl, rfl⟩
        · have d2 : decide (n ≤ rh) = false := by simpa using h2
          have N : Hid (hasB (s.take (k + 1)) n = false) := by show hasB (s.take (k + 1)) n = false; rw [unhide ST, d1, d2]; rfl
          clear ST PT
          go_wp2
          go_round
          case rel => exact ⟨k + 1, by omega, by go_num, unhide N⟩
          case measure => simp [intOf]; omega
      · have d1 : decide (rl ≤ n) = false := by simpa using h1
        have N : Hid (hasB (s.take (k + 1)) n = false) := by show hasB (s.take (k + 1)) n = false; rw [unhide ST, d1]; rfl
        clear ST PT
        go_wp2
        go_round
        case rel => exact ⟨k + 1, by omega, by go_num, unhide N⟩
        case measure => simp [intOf]; omega
    · have e : k = s.length := by omega
      have hall : hasB s n = false := by rw [e, List.take_length] at hno; exact hno
      have O := hide hall
      clear hno hall
      go_wp2
      go_ret
      exact ⟨by rw [unhide O]; rfl, rfl⟩

end Go.Proofs.YtihdgfihdecalaaGreatDoor

/- Sets of numbers as marks: the specification's l05Bits and l05Set. -/
namespace Go.Proofs.YtihdgfihdecalaaGreatDoor
open Go.RowKit
open Plain
set_option linter.unusedVariables false

namespace Plain
end Plain

end Go.Proofs.YtihdgfihdecalaaGreatDoor

/- The set of what is marked: the specification's l05Set. -/
namespace Go.Proofs.YtihdgfihdecalaaGreatDoor
open Go.RowKit
open Plain
set_option linter.unusedVariables false

namespace Plain
end Plain

end Go.Proofs.YtihdgfihdecalaaGreatDoor

/- Numbers put into a set, or taken out of it: the specification's l05Put, SetAdd, SetDrop. -/
namespace Go.Proofs.YtihdgfihdecalaaGreatDoor
open Go.RowKit
open Plain
set_option linter.unusedVariables false

namespace Plain
end Plain

end Go.Proofs.YtihdgfihdecalaaGreatDoor
