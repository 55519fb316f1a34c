/- Several texts in one. -/
import Derived.Test.YtocaljbimhjmgaaGreatDoorRowsA
import Derived.Test.YtocaljbimhjmgaaGreatDoorBoxA
import Derived.Test.YtocaljbimhjmgaaGreatDoorBmA
import Derived.Below
import Derived.Test.YtocaljbimhjmgaaGreatDoorPlainA
import Derived.Test.YtocaljbimhjmgaaGreatDoorProg
import Derived.WalkKit
import Derived.WalkSpells
import Derived.ProofKit
import Derived.Handy
import Derived.WalkSmall
import Derived.Laws.AppendOwn
import Derived.Deep.RegionHeld3
import Derived.Deep.QuietTactic
import Derived.BigQuiet
import Derived.Deep.Strs
import Derived.Deep.Slices
import Derived.ChangeArms
import Derived.OpenShut
import Derived.Test.YtocaljbimhjmgaaGreatDoorMem
namespace Go.Proofs.YtocaljbimhjmgaaGreatDoor
open Go.RowKit
open Plain
set_option linter.unusedVariables false

theorem Tryz.infoIntR : (Tryz.prog.info? 3).map (fun i => (i.zero, i.size, i.bytes)) = some (some (.int .i64 0), 1, 8) := by kernel_rfl
def intsC (l : List Int) : List Value := l.map (Value.int .i64)
theorem intsC_len (l : List Int) : (intsC l).length = l.length := by simp [intsC]
theorem intsC_get {l : List Int} {k : Nat} {x : Int} (h : l[k]? = some x) : (intsC l)[k]? = some (.int .i64 x) := by simp [intsC, h]
def OwnI (B : Nat) (w : World) (v : Value) (l : List Int) : Prop := w.ownsRow B 3 1 v l.length (intsC l)
theorem OwnI.nil (B : Nat) (w : World) : OwnI B w (.slice none 0 0) [] := ⟨rfl, .inl ⟨rfl, rfl⟩⟩
theorem OwnI.up {B : Nat} {w w' : World} {v : Value} {l : List Int} (h : OwnI B w v l) (hb : Below w.heap.size w w') : OwnI B w' v l := g_stays h hb
theorem OwnI.based {B B' : Nat} {w : World} {v : Value} {l : List Int} (h : OwnI B w v l) (hB : B' ≤ B) : OwnI B' w v l := g_based h hB
theorem OwnI.drew {B : Nat} {w : World} {v : Value} {l : List Int} (h : OwnI B w v l) : OwnI B w.drew v l := h
theorem OwnI.cell {B : Nat} {w : World} {v : Value} {l : List Int} (h : OwnI B w v l) {k : Nat} {x : Int} (hx : l[k]? = some x) : ∃ g c, v = .slice (some ⟨g, 0, none⟩) l.length c ∧ B ≤ g ∧ g < w.heap.size ∧ w.cell? ⟨g, k, none⟩ = some (.int .i64 x) := by
  have hk : k < l.length := (List.getElem?_eq_some_iff.1 hx).1
  rcases h.2 with ⟨_, h0⟩ | ⟨g, c, cur, rfl, hB, hh, hc, _, hs, ht⟩
  · omega
  · refine ⟨g, c, rfl, hB, (h.lt g rfl).2, ?_⟩
    have e : cur.toList[k]? = some (.int .i64 x) := by
      have := intsC_get hx
      rw [← ht, List.getElem?_take_of_lt (by omega)] at this
      exact this
    have e2 : cur[k]? = some (.int .i64 x) := by rw [← Array.getElem?_toList]; exact e
    simp [World.cell?, hh, e2]
end Go.Proofs.YtocaljbimhjmgaaGreatDoor

namespace Go.Proofs.YtocaljbimhjmgaaGreatDoor.Plain

structure Fl where
  name : ByteArray
  text : ByteArray
  kept : Int

end Go.Proofs.YtocaljbimhjmgaaGreatDoor.Plain

namespace Go.Proofs.YtocaljbimhjmgaaGreatDoor
open Go.RowKit
open Plain
set_option linter.unusedVariables false

theorem add_blk (x : Addr) (j : Nat) : (x.add j).block = x.block := by
  unfold Addr.add; split <;> rfl
theorem below_of_grown {w w1 : World} (h : w.grownBy w1 none) : Below w.heap.size w w1 := ⟨h.os, h.tape, h.output, h.size, fun k hk => h.block k hk (by simp)⟩
theorem below_draws {B : Nat} {w w1 : World} (h : Below B w w1) (z : Nat) : Below B w (w1.drewN z) := ⟨h.os, h.tape, h.output, h.size, h.block⟩

/-- Files that came in, below block B. -/
def ArgF (B : Nat) (w : World) (a : Option Addr) (l : List Fl) : Prop :=
  ∀ i f, l[i]? = some f → ∃ x, a = some x ∧ x.block < B ∧ f.name.size ≤ maxLen ∧ f.text.size ≤ maxLen ∧ w.cell? (x.add (i * 3)) = some (.string f.name) ∧
    w.cell? ⟨(x.add (i * 3)).block, (x.add (i * 3)).off + 1, none⟩ = some (.string f.text) ∧ w.cell? ⟨(x.add (i * 3)).block, (x.add (i * 3)).off + 2, none⟩ = some (.int .i64 f.kept)
theorem ArgF.below {B : Nat} {w w' : World} {a : Option Addr} {l : List Fl} (h : ArgF B w a l) (hb : Below B w w') : ArgF B w' a l := by
  intro i f hf
  obtain ⟨x, h1, h2, h3, h4, c0, c1, c2⟩ := h i f hf
  exact ⟨x, h1, h2, h3, h4, by rw [hb.cell (by rw [add_blk]; exact h2)]; exact c0, by rw [hb.cell (by show (x.add (i * 3)).block < B; rw [add_blk]; exact h2)]; exact c1, by rw [hb.cell (by show (x.add (i * 3)).block < B; rw [add_blk]; exact h2)]; exact c2⟩

theorem ArgF.up {w w' : World} {a : Option Addr} {l : List Fl} (h : ArgF w.heap.size w a l) (hb : Below w.heap.size w w') : ArgF w'.heap.size w' a l := by
  intro i f hf
  obtain ⟨x, h1, h2, h3⟩ := h.below hb i f hf
  exact ⟨x, h1, Nat.lt_of_lt_of_le h2 hb.size, h3⟩

end Go.Proofs.YtocaljbimhjmgaaGreatDoor

namespace Go.Proofs.YtocaljbimhjmgaaGreatDoor
open Go.RowKit Go.ChangeShapes Go.WideShapes Go.Deep
open Plain
set_option linter.unusedVariables false

theorem Tryz.cellsIntI : Tryz.prog.cellsOf 3 = 1 := by kernel_rfl

def laidI (l : List Int) (k : Nat) : List Int := l.take k ++ List.replicate (l.length - k) 0
theorem intsC_set (l : List Int) (k : Nat) (x : Int) : (intsC l).set k (.int .i64 x) = intsC (l.set k x) := by simp [intsC, List.map_set]
theorem laidI_zero (l : List Int) : laidI l 0 = List.replicate l.length 0 := by simp [laidI]
theorem laidI_all (l : List Int) : laidI l l.length = l := by simp [laidI]
theorem laidI_length (l : List Int) (k : Nat) (h : k ≤ l.length) : (laidI l k).length = l.length := by simp [laidI]; omega
theorem laidI_set (l : List Int) (k : Nat) (h : k < l.length) : (laidI l k).set k l[k] = laidI l (k + 1) := by
  unfold laidI
  have e : l.length - k = (l.length - (k + 1)) + 1 := by omega
  rw [List.set_append_right _ _ (by simp; omega), e, List.replicate_succ]
  have : k - (l.take k).length = 0 := by simp; omega
  rw [this, List.set_cons_zero, List.take_succ_eq_append_getElem h, List.append_assoc]
  rfl

/-- Ints that came in, below block B. -/
def ArgI (B : Nat) (w : World) (a : Option Addr) (l : List Int) : Prop :=
  ∀ i x, l[i]? = some x → ∃ p, a = some p ∧ p.block < B ∧ w.cell? (p.add i) = some (.int .i64 x)
theorem ArgI.below {B : Nat} {w w' : World} {a : Option Addr} {l : List Int} (h : ArgI B w a l) (hb : Below B w w') : ArgI B w' a l := by
  intro i x hx
  obtain ⟨p, h1, h2, h3⟩ := h i x hx
  exact ⟨p, h1, h2, by rw [hb.cell (by rw [add_blk]; exact h2)]; exact h3⟩
theorem ArgI.up {w w' : World} {a : Option Addr} {l : List Int} (h : ArgI w.heap.size w a l) (hb : Below w.heap.size w w') : ArgI w'.heap.size w' a l := by
  intro i f hf
  obtain ⟨x, h1, h2, h3⟩ := h.below hb i f hf
  exact ⟨x, h1, Nat.lt_of_lt_of_le h2 hb.size, h3⟩
theorem OwnI.shape {B : Nat} {w : World} {v : Value} {l : List Int} (h : OwnI B w v l) : ∃ a c, v = .slice a l.length c ∧ ∀ (k : Nat) (x : Int), l[k]? = some x →
    ∃ g, a = some ⟨g, 0, none⟩ ∧ g < w.heap.size ∧ w.cell? ⟨g, k, none⟩ = some (.int .i64 x) := by
  unfold OwnI at h
  rcases h.2 with ⟨rfl, h0⟩ | ⟨g, c, cur, rfl, hb, hh, _⟩
  · refine ⟨none, 0, by rw [h0], fun k f hf => ?_⟩
    rw [List.eq_nil_of_length_eq_zero h0] at hf
    simp at hf
  · refine ⟨_, _, rfl, fun k x hf => ⟨g, rfl, (h.lt _ rfl).2, ?_⟩⟩
    have hk : k < l.length := by
      rcases Nat.lt_or_ge k l.length with h1 | h1
      · exact h1
      · rw [List.getElem?_eq_none h1] at hf; cases hf
    rw [h.cellAt _ (by omega), intsC_get hf]

set_option maxHeartbeats 1000000 in
theorem toIntS_any (a : Option Addr) (cap : Nat) (l : List Int) (w : World) (hs : l.length ≤ 1048576) (h : ArgI w.heap.size w a l) :
    Calls Tryz.prog 46 #[.slice a l.length cap] w fun e w' =>
      ∃ v, e = .returned v ∧ OwnI w.heap.size w' v l ∧ Below w.heap.size w w' := by
  obtain ⟨i0, hi, hz0, hz1, hz2⟩ := info_parts Tryz.infoIntR
  have HA := hide h
  clear h
  go_enter Tryz.func46, Tryz.ntmps46
  go_wp2_with (refine wpList_make_full _ rfl _ _ 22 rfl w.heap.size 3 i0 _ 1 Tryz.underlying22 hi hz0 hz1 .i64 .i64 _ _ l.length rfl rfl rfl rfl (by rw [hz2]; omega) (by unfold maxLen; omega) (Nat.le_refl _) ?_; intro wm hown hgm)
  have hmade : (madeCells (Value.int IntKind.i64 0).cells (l.length * 1)).toList = intsC (List.replicate l.length 0) := by
    rw [Nat.mul_one]
    show (madeCells #[.int .i64 0] l.length).toList = _
    rw [toList_madeCells_one]
    simp [intsC]
  rw [hmade] at hown
  clear hmade
  have hgl : w.heap.size < wm.heap.size := (hown.lt _ rfl).2
  go_loopw [4] (fun i wr => ∃ k : Nat, k ≤ l.length ∧ i = .int .i64 k ∧ wr.ownsRow w.heap.size 3 1 (.slice (some ⟨w.heap.size, 0, none⟩) l.length l.length) l.length (intsC (laidI l k)) ∧ Below w.heap.size w wr) (fun i _ => l.length - (intOf i).toNat)
  case atStart => exact ⟨0, Nat.zero_le _, rfl, by rw [laidI_zero]; exact hown, below_of_grown hgm⟩
  case round =>
    obtain ⟨k, hk, rfl, hownk, hbel⟩ := hrel
    clear hown
    by_cases hlt : k < l.length
    · obtain ⟨x, rfl, hxb, c0⟩ := (unhide HA).below hbel k l[k] (List.getElem?_eq_getElem hlt)
      have hset := hide (laidI_set l k hlt)
      have hll := hide (laidI_length l k hk)
      generalize l[k] = f at c0 hset
      have hgr : w.heap.size < wr.heap.size := (hownk.lt _ rfl).2
      have f0 := hownk.frozenAt k
      have d0 : ∃ y, wr.cell? ⟨w.heap.size, k, none⟩ = some y := by
        rw [hownk.cellAt k (by omega)]
        exact ⟨_, List.getElem?_eq_getElem (by rw [intsC_len, unhide hll]; exact hlt)⟩
      obtain ⟨y, d0⟩ := d0
      have hst := hownk.stored k (.int .i64 f)
      rw [intsC_set, unhide hset] at hst
      have HST := hide hst.1
      have hB := hide (hbel.setCell (p := ⟨w.heap.size, k, none⟩) (Nat.le_refl _) (.int .i64 f))
      clear hst hownk
      go_wp2
      go_roundw
      case rel => exact ⟨k + 1, by omega, by go_num, unhide HST, unhide hB⟩
      case measure => simp [intOf]; omega
    · have e : k = l.length := by omega
      subst e
      rw [laidI_all] at hownk
      go_wp2
      go_ret
      exact ⟨_, rfl, hownk, hbel⟩

set_option maxHeartbeats 1000000 in
set_option maxRecDepth 100000 in
theorem eqIntS_same (l : List Int) (v1 v2 : Value) (B1 B2 : Nat) (w : World) (hs : l.length ≤ 1048576)
    (h1 : OwnI B1 w v1 l) (h2 : OwnI B2 w v2 l) :
    Calls Tryz.prog 60 #[v1, v2] w fun e w' => e = .returned (.bool true) ∧ Below w.heap.size w w' := by
  obtain ⟨a1, c1, rfl, k1⟩ := h1.shape
  obtain ⟨a2, c2, rfl, k2⟩ := h2.shape
  have C1 := hide k1
  have C2 := hide k2
  clear h1 h2 k1 k2
  go_enter Tryz.func60, Tryz.ntmps60
  go_wp2
  go_loopw [5] (fun i wr => ∃ k q : Nat, k ≤ l.length ∧ i = .int .i64 k ∧ wr = w.drewN q) (fun i _ => l.length - (intOf i).toNat)
  case atStart => exact ⟨0, 0, Nat.zero_le _, rfl, rfl⟩
  case round =>
    obtain ⟨k, q, hk, rfl, rfl⟩ := hrel
    by_cases hlt : k < l.length
    · obtain ⟨g1, rfl, _, e1⟩ := unhide C1 k l[k] (List.getElem?_eq_getElem hlt)
      obtain ⟨g2, rfl, _, e2⟩ := unhide C2 k l[k] (List.getElem?_eq_getElem hlt)
      generalize l[k] = x at e1 e2
      go_wp2
      go_quiet (fail)
      go_wp2
      go_roundw
      case rel => exact ⟨k + 1, _, by omega, by go_num, rfl⟩
      case measure => simp [intOf]; omega
    · go_wp2
      go_ret
      exact ⟨rfl, below_draws (Below.refl _ _) _⟩

def marksI (k0 n : Nat) : List Int := (List.range n).map fun j => ((k0 + j : Nat) : Int)
theorem marksI_len (k0 n : Nat) : (marksI k0 n).length = n := by simp [marksI]
set_option maxHeartbeats 1000000 in
set_option maxRecDepth 100000 in
theorem markIntS_any (l : List Int) (v : Value) (B k0 : Nat) (w : World) (hs : l.length ≤ 1048576) (hk1 : k0 ≤ 100000000) (h : OwnI B w v l) :
    Calls Tryz.prog 61 #[v, .int .i64 k0] w fun e w' => e = .returned (.int .i64 ((k0 + l.length : Nat) : Int)) ∧ OwnI B w' v (marksI k0 l.length) ∧ w.grownBy w' v.ownBlock := by
  unfold OwnI at h
  rcases h.2 with ⟨rfl, hz⟩ | ⟨g, cap, cur, rfl, hbg, hh, hrest⟩
  · have e : l = [] := List.eq_nil_of_length_eq_zero hz
    subst e
    go_enter Tryz.func61, Tryz.ntmps61
    go_wp2
    refine wp_loop_rounds 1 ?_
    rw [rounds_succ]
    go_wp2
    go_ret
    exact ⟨by simp, OwnI.nil _ _, ⟨rfl, rfl, rfl, Nat.le_refl _, fun _ _ _ => rfl⟩⟩
  · clear hh hrest
    obtain ⟨xs, hxs⟩ : ∃ xs, xs = intsC l := ⟨_, rfl⟩
    rw [← hxs] at h
    have hxl : xs.length = l.length := by rw [hxs, intsC_len]
    clear hxs
    go_enter Tryz.func61, Tryz.ntmps61
    have HX := hide hxl
    clear hxl
    go_wp2
    go_loopw [1, 5] (fun m i wr => ∃ (k : Nat) (xs : List Value), k ≤ l.length ∧ i = .int .i64 k ∧ m = .int .i64 ((k0 + k : Nat) : Int) ∧ xs.length = l.length ∧ (∀ j, j < k → xs[j]? = some (.int .i64 ((k0 + j : Nat) : Int))) ∧ wr.ownsRow B 3 1 (.slice (some ⟨g, 0, none⟩) l.length cap) l.length xs ∧ w.grownBy wr (some g)) (fun _ i _ => l.length - (intOf i).toNat)
    case atStart => exact ⟨0, xs, Nat.zero_le _, rfl, rfl, unhide HX, fun j hj => absurd hj (Nat.not_lt_zero j), h, ⟨rfl, rfl, rfl, Nat.le_refl _, fun _ _ _ => rfl⟩⟩
    case round =>
      obtain ⟨k, ys, hk, rfl, rfl, hyl, hmk, hown, hbel⟩ := hrel
      clear h
      by_cases hlt : k < l.length
      · have f0 := hown.frozenAt k
        have d0 : ∃ y, wr.cell? ⟨g, k, none⟩ = some y := by
          rw [hown.cellAt k (by omega)]
          exact ⟨_, List.getElem?_eq_getElem (by omega)⟩
        obtain ⟨y, d0⟩ := d0
        have HST := hide (hown.stored k (.int .i64 ((k0 + k : Nat) : Int))).1
        have hB : Hid (w.grownBy (wr.setCell ⟨g, k, none⟩ (.int .i64 ((k0 + k : Nat) : Int))) (some g)) := ⟨hbel.os, hbel.tape, hbel.output, by simpa using hbel.size, fun q hq hne => (Below.heap_setCell _ _ _ q (fun e => hne (by rw [e]))).trans (hbel.block q hq hne)⟩
        have HY := hide hyl
        have HM := hide hmk
        clear hown hyl hmk
        go_wp2
        go_roundw
        case rel => exact ⟨k + 1, _, by omega, by go_num, by go_num, by rw [List.length_set]; exact unhide HY, fun j hj => (by by_cases e : j = k; subst e; rw [List.getElem?_set_self (by have := unhide HY; omega)]; rw [List.getElem?_set_ne (fun h => e h.symm)]; exact unhide HM j (by omega)), unhide HST, unhide hB⟩
        case measure => simp [intOf]; omega
      · have e : k = l.length := by omega
        subst e
        have HM := hide hmk
        have HY := hide hyl
        have HO := hide hown
        clear hmk hyl hown
        go_wp2
        go_ret
        refine ⟨rfl, ?_, hbel⟩
        have e : ys = intsC (marksI k0 l.length) := by
          refine List.ext_getElem? fun j => ?_
          by_cases hj : j < l.length
          · rw [unhide HM j hj]; simp [intsC, marksI, hj]
          · rw [List.getElem?_eq_none (by have := unhide HY; omega), List.getElem?_eq_none (by simp [intsC, marksI]; omega)]
        unfold OwnI
        rw [← e, marksI_len]
        exact unhide HO

theorem szIntS_any (a : Option Addr) (c n L : Nat) (w : World) (hL : L ≤ 1048576) (hm : n ≤ maxLen) :
    Calls Tryz.prog 33 #[.slice a n c, .int .i64 (L : Int)] w fun e w' => (∃ m : Int, e = .returned (.int .i64 m) ∧ (m = -1 ∨ ∃ q : Nat, m = (q : Int) ∧ q ≤ L ∧ n ≤ L)) ∧ w' = w := by
  unfold maxLen at hm
  by_cases h1 : n ≤ L
  · obtain ⟨q, hq⟩ : ∃ q, q = L - n := ⟨_, rfl⟩
    have e0 : (L : Int) - (n : Int) = (q : Int) := by omega
    have i1 : ¬ (q : Int) < 0 := by omega
    have HQ := hide hq
    clear hq
    go_enter Tryz.func33, Tryz.ntmps33
    go_wp2
    go_ret
    have hqL : q ≤ L := by have := unhide HQ; omega
    exact ⟨⟨_, rfl, Or.inr ⟨q, rfl, hqL⟩⟩, rfl⟩
  · have e0 : (L : Int) - (n : Int) < 0 := by omega
    go_enter Tryz.func33, Tryz.ntmps33
    go_wp2
    go_ret
    exact ⟨⟨_, rfl, .inl rfl⟩, rfl⟩

end Go.Proofs.YtocaljbimhjmgaaGreatDoor

namespace Go.Proofs.YtocaljbimhjmgaaGreatDoor
open Go.RowKit Go.ChangeShapes Go.WideShapes Go.ChangeAt Go.Deep
open Plain
set_option linter.unusedVariables false
set_option linter.unusedSimpArgs false
attribute [local go_sem] cell_of frozen_of

namespace Plain
structure Vw where
  box : ByteArray
  valid : Int
  uids : List Int
  mod : Int
end Plain
abbrev vwV (x : Vw) (v : Value) : Value := .agg #[.string x.box, .int .i64 x.valid, v, .int .i64 x.mod]
/-- A view that came in. -/
structure ArgVw (B : Nat) (w : World) (a : Option Addr) (x : Vw) : Prop where
  bs : x.box.size ≤ maxLen
  m : x.uids.length ≤ maxLen
  uids : ArgI B w a x.uids
theorem ArgVw.up {w w' : World} {a : Option Addr} {x : Vw} (h : ArgVw w.heap.size w a x) (hb : Below w.heap.size w w') : ArgVw w'.heap.size w' a x := ⟨h.bs, h.m, h.uids.up hb⟩
abbrev rowI (a : Option Addr) (c : Nat) (l : List Int) : Pc := .row a l.length c 3 1 (intsC l)
theorem Mem.ints {W W' : World} {v : Value} {l : List Int} (h : OwnI W.heap.size W' v l) (hb : Below W.heap.size W W') : ∃ a c, v = .slice a l.length c ∧ Mem W W' [rowI a c l] := by
  obtain ⟨a, c, rfl⟩ := g_shape h
  exact ⟨a, c, rfl, Mem.of_row h hb⟩

set_option maxHeartbeats 4000000 in
set_option maxRecDepth 100000 in
theorem toView_any (x : Vw) (a : Option Addr) (c : Nat) (w : World) (hs : x.uids.length ≤ 1048576) (h : ArgVw w.heap.size w a x) :
    Calls Tryz.prog 21 #[vwV x (.slice a x.uids.length c)] w fun e w' => ∃ a' c', e = .returned (vwV x (.slice a' x.uids.length c')) ∧ Mem w w' [rowI a' c' x.uids] := by
  have HA := hide h
  clear h
  have M := Mem.start w
  go_enter Tryz.func21, Tryz.ntmps21
  go_wp2_with fail
  refine (toIntS_any a c x.uids _ hs ((unhide HA).up (Mem.here _)).uids).mono ?_
  rintro e w1 ⟨v, rfl, ho, hb⟩
  obtain ⟨a', c', rfl, M1⟩ := Mem.ints ho hb
  have M := Mem.then M1
  clear ho hb M1
  go_wp2
  refine bodyPost_ret (by simp [results, Tryz.results21, go_sem]; try rfl) rfl ?_
  exact ⟨_, _, rfl, Mem.end⟩

set_option maxHeartbeats 4000000 in
theorem szView_any (x : Vw) (a : Option Addr) (c : Nat) (w : World) (h : ArgVw w.heap.size w a x) :
    Calls Tryz.prog 17 #[vwV x (.slice a x.uids.length c), .int .i64 1048576] w fun e w' => (∃ m : Int, e = .returned (.int .i64 m) ∧ (m = -1 ∨ ∃ q : Nat, m = (q : Int) ∧ q ≤ 1048576 ∧ x.box.size ≤ 1048576 ∧ x.uids.length ≤ 1048576)) ∧ Mem w w' [] := by
  have hn := h.bs
  have HA := hide h
  have M := Mem.start w
  unfold maxLen at hn
  clear h
  by_cases h1 : x.box.size ≤ 1048576
  · obtain ⟨L, hL⟩ : ∃ L, L = 1048576 - x.box.size := ⟨_, rfl⟩
    have e0 : (1048576 : Int) - (x.box.size : Int) = (L : Int) := by omega
    have hL2 : L ≤ 1048576 := by omega
    have i1 : ¬ (L : Int) < 0 := by omega
    clear hL
    go_enter Tryz.func17, Tryz.ntmps17
    go_wp2_with fail
    refine (szIntS_any a c x.uids.length L _ hL2 (unhide HA).m).mono ?_
    rintro e w1 ⟨⟨m, rfl, hm⟩, rfl⟩
    rcases hm with rfl | ⟨q, rfl, hq, hs⟩
    · go_wp2
      go_ret
      exact ⟨⟨_, rfl, .inl rfl⟩, Mem.end⟩
    · have i2 : ¬ (q : Int) < 0 := by omega
      have HS : Hid (q ≤ 1048576 ∧ x.box.size ≤ 1048576 ∧ x.uids.length ≤ 1048576) := ⟨by omega, h1, by omega⟩
      clear hs hq h1 hL2
      go_wp2
      go_ret
      exact ⟨⟨_, rfl, .inr ⟨q, rfl, unhide HS⟩⟩, Mem.end⟩
  · have e0 : (1048576 : Int) - (x.box.size : Int) < 0 := by omega
    go_enter Tryz.func17, Tryz.ntmps17
    go_wp2
    go_ret
    exact ⟨⟨_, rfl, .inl rfl⟩, Mem.end⟩

set_option maxHeartbeats 4000000 in
theorem eqView_same (x : Vw) (a1 a2 : Option Addr) (c1 c2 B1 B2 : Nat) (w : World) (hs : x.uids.length ≤ 1048576) (h1 : OwnI B1 w (.slice a1 x.uids.length c1) x.uids) (h2 : OwnI B2 w (.slice a2 x.uids.length c2) x.uids) :
    Calls Tryz.prog 28 #[vwV x (.slice a1 x.uids.length c1), vwV x (.slice a2 x.uids.length c2)] w fun e w' => e = .returned (.bool true) ∧ Mem w w' [] := by
  have H1 := hide h1
  have H2 := hide h2
  have M := Mem.start w
  clear h1 h2
  go_enter Tryz.func28, Tryz.ntmps28
  go_wp2_with fail
  refine (eqIntS_same x.uids _ _ _ _ _ hs ((unhide H1).up (Mem.here _)) ((unhide H2).up (Mem.here _))).mono ?_
  rintro e w1 ⟨rfl, hb⟩
  have M := Mem.go hb
  clear hb
  go_wp2
  go_ret
  exact ⟨rfl, Mem.end⟩

set_option maxHeartbeats 4000000 in
theorem markView_any (x : Vw) (v : Value) (B k0 : Nat) (w : World) (hs : x.uids.length ≤ 1048576) (hk : k0 ≤ 100000000) (h : OwnI B w v x.uids) :
    Calls Tryz.prog 29 #[vwV x v, .int .i64 (k0 : Int)] w fun e w' => e = .returned (.int .i64 ((k0 + x.uids.length : Nat) : Int)) ∧ OwnI B w' v (marksI k0 x.uids.length) ∧ w.grownBy w' v.ownBlock := by
  obtain ⟨a, c, rfl⟩ := g_shape h
  have H := hide h
  have M := Mem.start w
  clear h
  go_enter Tryz.func29, Tryz.ntmps29
  go_wp2_with fail
  refine (markIntS_any x.uids _ B k0 _ hs hk ((unhide H).up (Mem.here _))).mono ?_
  rintro e w1 ⟨rfl, ho, hg⟩
  have HO := hide ho
  have HG := hide hg
  clear ho hg
  go_wp2
  go_ret
  exact ⟨rfl, unhide HO, g_join (g_grown (Mem.here _) _) (unhide HG)⟩

theorem Tryz.cellsVwStr : Tryz.prog.cellsOf 9 = 1 := by kernel_rfl
theorem Tryz.cellsVwInt : Tryz.prog.cellsOf 3 = 1 := by kernel_rfl
theorem Tryz.cellsVwIntS : Tryz.prog.cellsOf 22 = 1 := by kernel_rfl
set_option maxRecDepth 100000 in
theorem open_ia {H : Type} {enc : TypeId × Value → H} {W : World} {base : Nat} {sp : Nat → Bool} {held : Bool} {fuel : Nat} {cs : List Value} {x : DataW H × List MemPlace}
    (hf : DataW.trod enc Tryz.prog W base sp held fuel 22 cs = some x) :
    ∃ (a : Option Addr) (cap : Nat) (l : List Int), cs = [.slice a l.length cap] ∧ l.length ≤ maxLen ∧ ArgI W.heap.size W a l := by
  rcases open_slice1 Tryz.underlying22 Tryz.cellsIntI hf with ⟨hcs, _⟩ | ⟨x, len', cap', m, n, V, D, Pl, hcs, _, hlc, hcm, hm, _, hel⟩
  · exact ⟨none, 0, [], hcs, Nat.zero_le _, fun i f hf => by simp at hf⟩
  · subst hcs
    have hm' : len' ≤ m := by rw [hm]; split <;> omega
    have each : ∀ i, i < len' → ∃ z : Int, W.cell? (x.add i) = some (.int .i64 z) := by
      intro i hi
      obtain ⟨h1, h2⟩ := hel i (by omega)
      obtain ⟨z, e, _⟩ := DataW.trod_int Tryz.underlying3 h2
      simp at e
      exact ⟨z, by rw [h1, e]⟩
    obtain ⟨F, hF⟩ := choose_lt (α := Int) each
    refine ⟨some x, cap', (List.range len').map F, by simp, by simp; omega, fun i f hf => ?_⟩
    have hi : i < len' := by
      rcases Nat.lt_or_ge i len' with h1 | h1
      · exact h1
      · rw [List.getElem?_eq_none (by simpa using h1)] at hf; cases hf
    obtain rfl : F i = f := by simpa [hi] using hf
    refine ⟨x, rfl, ?_, hF i hi⟩
    have := World.block_lt_of_cell? W _ (hF i hi)
    rwa [add_blk] at this
end Go.Proofs.YtocaljbimhjmgaaGreatDoor
