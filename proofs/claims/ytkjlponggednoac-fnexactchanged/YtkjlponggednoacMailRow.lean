/- Rows of Mails: what the laws' own helpers do to them; rows that came in. Made by gen_rows.py. -/
import Derived.Test.YtkjlponggednoacProg
import Derived.Test.YtkjlponggednoacRowK
import Derived.Test.YtkjlponggednoacRegion
import Derived.Test.YtkjlponggednoacMarks
import Derived.Deep.Slices
import Derived.Deep.Strs
import Derived.ChangeArms
import Derived.OpenShut
import Derived.Deep.RegionHeld3
import Derived.Deep.QuietTactic
import Derived.BigQuiet
import Derived.WalkSmall
namespace Go.Proofs.Ytkjlponggednoac
open Go.RowKit Go.ChangeShapes Go.WideShapes Go.ChangeAt Go.Deep
open Plain
set_option linter.unusedVariables false
set_option linter.unusedSimpArgs false

namespace Plain
structure Ml where
  uid : Int
  flags : Int
  mod : Int
  text : ByteArray
def mlC (x : Ml) : List Value := [.int .i64 x.uid, .int .i64 x.flags, .int .i64 x.mod, .string x.text]
theorem mlC_len : ∀ x, (mlC x).length = 4 := fun _ => rfl
def ml0 : Ml := ⟨0, 0, 0, ByteArray.empty⟩
def SmallMl (L : Nat) (l : List Ml) : Prop := l.length ≤ L ∧ ∀ m ∈ l, m.text.size ≤ L
end Plain
theorem Try.infoMail : (Try.prog.info? 47).map (fun i => (i.zero, i.size, i.bytes)) = some (some (.agg #[.int .i64 0, .int .i64 0, .int .i64 0, .string ByteArray.empty]), 4, 40) := by kernel_rfl
def OwnMl (B : Nat) (w : World) (v : Value) (l : List Ml) : Prop := w.ownsRow B 47 4 v l.length (rowC mlC l)
theorem OwnMl.up {B : Nat} {w w' : World} {v : Value} {l : List Ml} (h : OwnMl B w v l) (hb : Below w.heap.size w w') : OwnMl B w' v l := g_stays h hb
theorem OwnMl.based {B B' : Nat} {w : World} {v : Value} {l : List Ml} (h : OwnMl B w v l) (hB : B' ≤ B) : OwnMl B' w v l := g_based h hB
theorem OwnMl.aside {B : Nat} {w w' : World} {v : Value} {l : List Ml} {row : Option Nat} (h : OwnMl B w v l) (hg : w.grownBy w' row) (hne : ∀ k, row = some k → v.ownBlock ≠ some k) : OwnMl B w' v l := g_aside h hg hne
theorem ml_cells {w : World} {B g n cap : Nat} {l : List Ml} (h : w.ownsRow B 47 4 (.slice (some ⟨g, 0, none⟩) n cap) n (rowC mlC l)) {k : Nat} {f : Ml} (hx : l[k]? = some f) (hk : k < n) :
    w.cell? ⟨g, k * 4, none⟩ = some (.int .i64 f.uid) ∧ w.cell? ⟨g, k * 4 + 1, none⟩ = some (.int .i64 f.flags) ∧ w.cell? ⟨g, k * 4 + 2, none⟩ = some (.int .i64 f.mod) ∧ w.cell? ⟨g, k * 4 + 3, none⟩ = some (.string f.text) := by
  refine ⟨?_, ?_, ?_, ?_⟩
  · rw [h.cellAt _ (by omega)]; exact rowC_get mlC_len hx (j := 0) (by decide)
  · rw [h.cellAt _ (by omega)]; exact rowC_get mlC_len hx (j := 1) (by decide)
  · rw [h.cellAt _ (by omega)]; exact rowC_get mlC_len hx (j := 2) (by decide)
  · rw [h.cellAt _ (by omega)]; exact rowC_get mlC_len hx (j := 3) (by decide)
/-- Elements that came in, below block B. -/
def ArgMl (B : Nat) (w : World) (a : Option Addr) (l : List Ml) : Prop :=
  ∀ i f, l[i]? = some f → ∃ x, a = some x ∧ x.block < B ∧ f.text.size ≤ maxLen ∧ w.cell? (x.add (i * 4)) = some (.int .i64 f.uid) ∧ w.cell? ⟨(x.add (i * 4)).block, (x.add (i * 4)).off + 1, none⟩ = some (.int .i64 f.flags) ∧ w.cell? ⟨(x.add (i * 4)).block, (x.add (i * 4)).off + 2, none⟩ = some (.int .i64 f.mod) ∧ w.cell? ⟨(x.add (i * 4)).block, (x.add (i * 4)).off + 3, none⟩ = some (.string f.text)
theorem ArgMl.below {B : Nat} {w w' : World} {a : Option Addr} {l : List Ml} (h : ArgMl B w a l) (hb : Below B w w') : ArgMl B w' a l := by
  intro i f hf
  obtain ⟨x, h1, h2, z0, c0, c1, c2, c3⟩ := h i f hf
  have hb2 : (x.add (i * 4)).block < B := by rw [g_add]; exact h2
  exact ⟨x, h1, h2, z0, (hb.cell hb2).trans c0, (hb.cell (p := ⟨(x.add (i * 4)).block, _, none⟩) hb2).trans c1, (hb.cell (p := ⟨(x.add (i * 4)).block, _, none⟩) hb2).trans c2, (hb.cell (p := ⟨(x.add (i * 4)).block, _, none⟩) hb2).trans c3⟩
theorem ArgMl.up {w w' : World} {a : Option Addr} {l : List Ml} (h : ArgMl w.heap.size w a l) (hb : Below w.heap.size w w') : ArgMl w'.heap.size w' a l := by
  intro i f hf
  obtain ⟨x, h1, h2, h3⟩ := h.below hb i f hf
  exact ⟨x, h1, Nat.lt_of_lt_of_le h2 hb.size, h3⟩

set_option maxHeartbeats 1000000 in
theorem toMail_any (uid : Int) (flags : Int) (mod : Int) (text : ByteArray) (w : World) :
    Calls Try.prog 46 #[.agg #[.int .i64 uid, .int .i64 flags, .int .i64 mod, .string text]] w fun e w' => e = .returned (.agg #[.int .i64 uid, .int .i64 flags, .int .i64 mod, .string text]) ∧ Below w.heap.size w w' := by
  go_enter Try.func46, Try.ntmps46
  go_wp2
  go_returns
  refine ⟨rfl, ?_⟩
  go_grown
set_option maxHeartbeats 1000000 in
theorem eqMail_same (uid : Int) (flags : Int) (mod : Int) (text : ByteArray) (w : World) :
    Calls Try.prog 28 #[.agg #[.int .i64 uid, .int .i64 flags, .int .i64 mod, .string text], .agg #[.int .i64 uid, .int .i64 flags, .int .i64 mod, .string text]] w fun e w' => e = .returned (.bool true) ∧ Below w.heap.size w w' := by
  go_enter Try.func28, Try.ntmps28
  go_wp2
  go_ret
  refine ⟨rfl, ?_⟩
  go_grown

set_option maxHeartbeats 1000000 in
theorem szMail_any (uid : Int) (flags : Int) (mod : Int) (text : ByteArray) (L : Nat) (w : World) (hL : L ≤ 1048576) (hs : text.size ≤ maxLen) :
    Calls Try.prog 45 #[.agg #[.int .i64 uid, .int .i64 flags, .int .i64 mod, .string text], .int .i64 (L : Int)] w fun e w' =>
      (∃ m : Int, e = .returned (.int .i64 m) ∧ (m = -1 ∨ ∃ q : Nat, m = (q : Int) ∧ q ≤ L ∧ text.size ≤ L)) ∧ Below w.heap.size w w' := by
  unfold maxLen at hs
  by_cases h1 : text.size ≤ L
  · have e0 : (text.size : Int) ≤ (L : Int) := by omega
    go_enter Try.func45, Try.ntmps45
    go_wp2
    go_ret
    exact ⟨⟨_, rfl, .inr ⟨L - text.size, by omega, by omega, h1⟩⟩, (Below.refl _ w).alloc (Nat.le_refl _) _⟩
  · have e0 : (L : Int) < (text.size : Int) := by omega
    go_enter Try.func45, Try.ntmps45
    go_wp2
    go_ret
    exact ⟨⟨_, rfl, .inl rfl⟩, (Below.refl _ w).alloc (Nat.le_refl _) _⟩
set_option maxHeartbeats 1000000 in
theorem szMailS_any (a : Option Addr) (cap L : Nat) (l : List Ml) (w : World) (hL : L ≤ 1048576) (hm : l.length ≤ maxLen) (h : ArgMl w.heap.size w a l) :
    Calls Try.prog 23 #[.slice a l.length cap, .int .i64 (L : Int)] w fun e w' =>
      (∃ m : Int, e = .returned (.int .i64 m) ∧ (m = -1 ∨ ∃ q : Nat, m = (q : Int) ∧ q ≤ L ∧ SmallMl L l)) ∧ Below w.heap.size w w' := by
  unfold maxLen at hm
  obtain ⟨len, hl⟩ : ∃ len, len = l.length := ⟨_, rfl⟩
  rw [← hl] at hm ⊢
  have HL := hide hl
  clear hl
  by_cases hs : len ≤ L
  · have HA := hide h
    have hs' : (len : Int) ≤ (L : Int) := by omega
    clear h
    go_enter Try.func23, Try.ntmps23
    go_wp2
    go_loopw [1, 5] (fun m i wr => ∃ k q : Nat, k ≤ len ∧ q ≤ L ∧ i = .int .i64 k ∧ m = .int .i64 q ∧ (∀ f ∈ l.take k, f.text.size ≤ L) ∧ Below w.heap.size w wr) (fun _ i _ => len - (intOf i).toNat)
    case atStart => exact ⟨0, L - len, Nat.zero_le _, by omega, rfl, by go_num, by simp, Below.refl _ _⟩
    case round =>
      obtain ⟨k, q, hk, hq, rfl, rfl, hall, hbel⟩ := hrel
      by_cases hlt : k < len
      · have hkl : k < l.length := by have := unhide HL; omega
        obtain ⟨x, rfl, hxb, hz, c0, c1, c2, c3⟩ := (unhide HA).below hbel k l[k] (List.getElem?_eq_getElem hkl)
        have hsnoc := hide (show l.take (k + 1) = l.take k ++ [l[k]] from List.take_succ_eq_append_getElem hkl)
        have HC := hide hall
        clear hall
        generalize l[k] = f at *
        have HZ := hide (fun wx => szMail_any f.uid f.flags f.mod f.text q wx (by omega) hz)
        clear hz
        go_wp2_with fail
        refine (unhide HZ _).mono ?_
        rintro e w1 ⟨⟨m, rfl, hmm⟩, hb1⟩
        rcases hmm with rfl | ⟨q1, rfl, hq1, hq2⟩
        · go_wp2
          go_ret
          exact ⟨⟨_, rfl, .inl rfl⟩, below2 hbel hb1⟩
        · go_wp2
          go_roundw
          case rel =>
            refine ⟨k + 1, q1, by omega, by omega, by go_num, rfl, ?_, below2 hbel hb1⟩
            rw [unhide hsnoc]
            intro f' hf'
            rcases List.mem_append.1 hf' with h1 | h1
            · exact unhide HC f' h1
            · simp at h1; subst h1; omega
          case measure => simp [intOf]; omega
      · have e : k = len := by omega
        subst e
        rw [List.take_of_length_le (by have := unhide HL; omega)] at hall
        have HC := hide hall
        clear hall
        go_wp2
        go_ret
        exact ⟨⟨_, rfl, .inr ⟨q, rfl, hq, by have := unhide HL; unfold SmallMl; exact ⟨by omega, unhide HC⟩⟩⟩, hbel⟩
  · have hs' : (L : Int) < (len : Int) := by omega
    go_enter Try.func23, Try.ntmps23
    go_wp2
    go_ret
    exact ⟨⟨_, rfl, .inl rfl⟩, Below.refl _ _⟩

set_option maxHeartbeats 1000000 in
set_option maxRecDepth 100000 in
theorem toMailS_any (a : Option Addr) (cap : Nat) (l : List Ml) (w : World) (hs : l.length ≤ 1048576) (h : ArgMl w.heap.size w a l) :
    Calls Try.prog 25 #[.slice a l.length cap] w fun e w' => ∃ v, e = .returned v ∧ OwnMl w.heap.size w' v l ∧ Below w.heap.size w w' := by
  obtain ⟨i0, hi, hz0, hz1, hz2⟩ := info_parts Try.infoMail
  have HA := hide h
  clear h
  go_enter Try.func25, Try.ntmps25
  go_wp2_with (refine wpList_make_full _ rfl _ _ 27 rfl w.heap.size 47 i0 _ 4 Try.underlying27 hi hz0 hz1 .i64 .i64 _ _ l.length rfl rfl rfl rfl (by rw [hz2]; omega) (by unfold maxLen; omega) (Nat.le_refl _) ?_; intro wm hown hgm)
  rw [rowC_made mlC_len (by decide) (a0 := ml0) rfl] at hown
  have hgl : w.heap.size < wm.heap.size := (hown.lt _ rfl).2
  go_loopw [4] (fun i wr => ∃ k : Nat, k ≤ l.length ∧ i = .int .i64 k ∧ wr.ownsRow w.heap.size 47 4 (.slice (some ⟨w.heap.size, 0, none⟩) l.length l.length) l.length (rowC mlC (laidK ml0 l k)) ∧ Below w.heap.size w wr) (fun i _ => l.length - (intOf i).toNat)
  case atStart => exact ⟨0, Nat.zero_le _, rfl, by rw [laidK_zero]; exact hown, g_below hgm⟩
  case round =>
    obtain ⟨k, hk, rfl, hownk, hbel⟩ := hrel
    clear hown
    by_cases hlt : k < l.length
    · obtain ⟨x, rfl, hxb, _, c0, c1, c2, c3⟩ := (unhide HA).below hbel k l[k] (List.getElem?_eq_getElem hlt)
      have hset := hide (laidK_set ml0 hlt)
      have hget := laidK_at ml0 hlt
      generalize l[k] = f at *
      have HT := hide (fun wx => toMail_any f.uid f.flags f.mod f.text wx)
      have hgr : w.heap.size < wr.heap.size := (hownk.lt _ rfl).2
      have OK := hide hownk
      have HG := hide hget
      clear hownk hget
      go_wp2_with fail
      refine (unhide HT _).mono ?_
      rintro e w1 ⟨rfl, hb1⟩
      have hget := unhide HG
      have own1 : w1.ownsRow w.heap.size 47 4 (.slice (some ⟨w.heap.size, 0, none⟩) l.length l.length) l.length (rowC mlC (laidK ml0 l k)) := g_stays (unhide OK) hb1
      have f0 := own1.frozenAt (k * 4)
      have f1 := own1.frozenAt (k * 4 + 1)
      have f2 := own1.frozenAt (k * 4 + 2)
      have f3 := own1.frozenAt (k * 4 + 3)
      obtain ⟨d0, d1, d2, d3⟩ := ml_cells own1 hget hlt
      have st0 := own1.stored (k * 4) (.int .i64 f.uid)
      rw [show k * 4 = k * 4 + 0 from rfl, rowC_set mlC_len hget (j := 0) (by decide) ⟨f.uid, ml0.flags, ml0.mod, ml0.text⟩ (.int .i64 f.uid) rfl] at st0
      have st1 := st0.1.stored (k * 4 + 1) (.int .i64 f.flags)
      rw [rowC_set2 mlC_len hget ⟨f.uid, ml0.flags, ml0.mod, ml0.text⟩ (j := 1) (by decide) ⟨f.uid, f.flags, ml0.mod, ml0.text⟩ (.int .i64 f.flags) rfl] at st1
      have st2 := st1.1.stored (k * 4 + 2) (.int .i64 f.mod)
      rw [rowC_set2 mlC_len hget ⟨f.uid, f.flags, ml0.mod, ml0.text⟩ (j := 2) (by decide) ⟨f.uid, f.flags, f.mod, ml0.text⟩ (.int .i64 f.mod) rfl] at st2
      have st3 := st2.1.stored (k * 4 + 3) (.string f.text)
      rw [rowC_set2 mlC_len hget ⟨f.uid, f.flags, f.mod, ml0.text⟩ (j := 3) (by decide) ⟨f.uid, f.flags, f.mod, f.text⟩ (.string f.text) rfl] at st3
      rw [show (⟨f.uid, f.flags, f.mod, f.text⟩ : Ml) = f from rfl, unhide hset] at st3
      have HST := hide st3.1
      have hB := hide (((((below2 hbel hb1).setCell (p := ⟨w.heap.size, k * 4, none⟩) (Nat.le_refl _) (.int .i64 f.uid)).setCell (p := ⟨w.heap.size, k * 4 + 1, none⟩) (Nat.le_refl _) (.int .i64 f.flags)).setCell (p := ⟨w.heap.size, k * 4 + 2, none⟩) (Nat.le_refl _) (.int .i64 f.mod)).setCell (p := ⟨w.heap.size, k * 4 + 3, none⟩) (Nat.le_refl _) (.string f.text))
      clear own1 hget st0 st1 st2 st3
      go_wp2
      go_roundw
      case rel => exact ⟨k + 1, by omega, by go_num, unhide HST, unhide hB⟩
      case measure => simp [intOf]; omega
    · have e : k = l.length := by omega
      subst e
      rw [laidK_all] at hownk
      go_wp2
      go_ret
      exact ⟨_, rfl, hownk, hbel⟩

theorem Try.cellsLMail : Try.prog.cellsOf 73 = 4 := by kernel_rfl
theorem Try.cellsMailInt : Try.prog.cellsOf 3 = 1 := by kernel_rfl
theorem Try.cellsMailStr : Try.prog.cellsOf 9 = 1 := by kernel_rfl

set_option maxRecDepth 100000 in
/-- A row of cells, as a slice's field may hold it. -/
theorem open_ml {H : Type} {enc : TypeId × Value → H} {W : World} {base : Nat} {sp : Nat → Bool} {held : Bool} {fuel : Nat} {cs : List Value} {x : DataW H × List MemPlace}
    (hf : DataW.trod enc Try.prog W base sp held fuel 22 cs = some x) :
    ∃ (a : Option Addr) (cap : Nat) (l : List Ml), cs = [.slice a l.length cap] ∧ l.length ≤ maxLen ∧ ArgMl W.heap.size W a l := by
  rcases open_slice Try.underlying22 hf with ⟨hcs, _⟩ | ⟨a, vn, cap, m, n, D, Pl, hcs, _, hlc, hcm, hm, _, hel⟩
  · exact ⟨none, 0, [], hcs, Nat.zero_le _, fun i f hf => by simp at hf⟩
  · subst hcs
    have hm' : vn ≤ m := by rw [hm]; split <;> omega
    have each : ∀ i, i < vn → ∃ f : Ml, f.text.size ≤ maxLen ∧ W.cell? (a.add (i * 4)) = some (.int .i64 f.uid) ∧ W.cell? ⟨(a.add (i * 4)).block, (a.add (i * 4)).off + 1, none⟩ = some (.int .i64 f.flags) ∧ W.cell? ⟨(a.add (i * 4)).block, (a.add (i * 4)).off + 2, none⟩ = some (.int .i64 f.mod) ∧ W.cell? ⟨(a.add (i * 4)).block, (a.add (i * 4)).off + 3, none⟩ = some (.string f.text) := by
      intro i hi
      obtain ⟨cs', h1, h2⟩ := hel i (by omega)
      rw [Try.cellsLMail] at h1
      obtain ⟨_, hlen, hc⟩ := World.cells?_some h1
      obtain ⟨xs, n', _, _, hl', hlen', hfld⟩ := DataW.trod_struct Try.underlying73 h2
      match cs', hlen with
      | [u0, u1, u2, u3], _ =>
        have h10 := hfld 0 _ rfl
        have h11 := hfld 1 _ rfl
        have h12 := hfld 2 _ rfl
        have h13 := hfld 3 _ rfl
        match xs, hlen' with
        | [y0, y1, y2, y3], _ =>
          obtain ⟨k0, e0, _, b0⟩ := DataW.trod_int Try.underlying3 h10
          obtain ⟨k1, e1, _, b1⟩ := DataW.trod_int Try.underlying3 h11
          obtain ⟨k2, e2, _, b2⟩ := DataW.trod_int Try.underlying3 h12
          obtain ⟨k3, e3, _, b3⟩ := DataW.trod_string Try.underlying9 h13
          simp [Try.cellsMailInt, Try.cellsMailStr] at e0
          simp [Try.cellsMailInt, Try.cellsMailStr] at e1
          simp [Try.cellsMailInt, Try.cellsMailStr] at e2
          simp [Try.cellsMailInt, Try.cellsMailStr] at e3
          subst e0 e1 e2 e3
          have c0 := hc 0 (by simp)
          have c1 := hc 1 (by simp)
          have c2 := hc 2 (by simp)
          have c3 := hc 3 (by simp)
          rw [show ∀ y : Addr, y.add 1 = ⟨y.block, y.off + 1, none⟩ from fun y => by simp [Addr.add]] at c1
          rw [show ∀ y : Addr, y.add 2 = ⟨y.block, y.off + 2, none⟩ from fun y => by simp [Addr.add]] at c2
          rw [show ∀ y : Addr, y.add 3 = ⟨y.block, y.off + 3, none⟩ from fun y => by simp [Addr.add]] at c3
          refine ⟨⟨k0, k1, k2, k3⟩, b3, ?_, c1, c2, c3⟩
          simpa [Addr.add] using c0
    have inh : Inhabited Ml := ⟨ml0⟩
    obtain ⟨F, hF⟩ := choose_lt (α := Ml) each
    refine ⟨some a, cap, (List.range vn).map F, by simp, by simp; omega, fun i f hf => ?_⟩
    have hi : i < vn := by
      rcases Nat.lt_or_ge i vn with h1 | h1
      · exact h1
      · rw [List.getElem?_eq_none (by simpa using h1)] at hf; cases hf
    obtain rfl : F i = f := by simpa [hi] using hf
    obtain ⟨z3, c0, c1, c2, c3⟩ := hF i hi
    refine ⟨a, rfl, ?_, z3, c0, c1, c2, c3⟩
    have := World.block_lt_of_cell? W _ c0
    rwa [g_add] at this
end Go.Proofs.Ytkjlponggednoac
