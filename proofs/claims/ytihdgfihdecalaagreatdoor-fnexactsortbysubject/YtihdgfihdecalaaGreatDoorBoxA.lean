/- Several texts in one: MailRow, MailMarks, TombRow, TombMarks, BoxVal, BoxMarks, BoxLed. Made by fuse_tl.py. -/
import Derived.Test.YtihdgfihdecalaaGreatDoorProg
import Derived.Test.YtihdgfihdecalaaGreatDoorRowsA
import Derived.Test.YtihdgfihdecalaaGreatDoorRegA
import Derived.Test.YtihdgfihdecalaaGreatDoorBmA
import Derived.Deep.Slices
import Derived.Deep.Strs
import Derived.ChangeArms
import Derived.OpenShut
import Derived.Deep.RegionHeld3
import Derived.Deep.QuietTactic
import Derived.BigQuiet
import Derived.WalkSmall
/- Rows of Mails: what the laws' own helpers do to them; rows that came in. Made by gen_rows.py. -/
namespace Go.Proofs.YtihdgfihdecalaaGreatDoor
open Go.RowKit Go.ChangeShapes Go.WideShapes Go.ChangeAt Go.Deep
open Plain
set_option linter.unusedVariables false
set_option linter.unusedSimpArgs false

namespace Plain
structure Ml where
  uid : Int
  flags : Int
  mod : Int
  text : ByteArray
def mlC (x : Ml) : List Value := [.int .i64 x.uid, .int .i64 x.flags, .int .i64 x.mod, .string x.text]
theorem mlC_len : ∀ x, (mlC x).length = 4 := fun _ => rfl
def ml0 : Ml := ⟨0, 0, 0, ByteArray.empty⟩
def SmallMl (L : Nat) (l : List Ml) : Prop := l.length ≤ L ∧ ∀ m ∈ l, m.text.size ≤ L
end Plain
theorem Tryz.infoMail : (Tryz.prog.info? 55).map (fun i => (i.zero, i.size, i.bytes)) = some (some (.agg #[.int .i64 0, .int .i64 0, .int .i64 0, .string ByteArray.empty]), 4, 40) := by kernel_rfl
def OwnMl (B : Nat) (w : World) (v : Value) (l : List Ml) : Prop := w.ownsRow B 55 4 v l.length (rowC mlC l)
theorem OwnMl.up {B : Nat} {w w' : World} {v : Value} {l : List Ml} (h : OwnMl B w v l) (hb : Below w.heap.size w w') : OwnMl B w' v l := g_stays h hb
theorem OwnMl.based {B B' : Nat} {w : World} {v : Value} {l : List Ml} (h : OwnMl B w v l) (hB : B' ≤ B) : OwnMl B' w v l := g_based h hB
theorem ml_cells {w : World} {B g n cap : Nat} {l : List Ml} (h : w.ownsRow B 55 4 (.slice (some ⟨g, 0, none⟩) n cap) n (rowC mlC l)) {k : Nat} {f : Ml} (hx : l[k]? = some f) (hk : k < n) :
    w.cell? ⟨g, k * 4, none⟩ = some (.int .i64 f.uid) ∧ w.cell? ⟨g, k * 4 + 1, none⟩ = some (.int .i64 f.flags) ∧ w.cell? ⟨g, k * 4 + 2, none⟩ = some (.int .i64 f.mod) ∧ w.cell? ⟨g, k * 4 + 3, none⟩ = some (.string f.text) := by
  refine ⟨?_, ?_, ?_, ?_⟩
  · rw [h.cellAt _ (by omega)]; exact rowC_get mlC_len hx (j := 0) (by decide)
  · rw [h.cellAt _ (by omega)]; exact rowC_get mlC_len hx (j := 1) (by decide)
  · rw [h.cellAt _ (by omega)]; exact rowC_get mlC_len hx (j := 2) (by decide)
  · rw [h.cellAt _ (by omega)]; exact rowC_get mlC_len hx (j := 3) (by decide)
/-- Elements that came in, below block B. -/
def ArgMl (B : Nat) (w : World) (a : Option Addr) (l : List Ml) : Prop :=
  ∀ i f, l[i]? = some f → ∃ x, a = some x ∧ x.block < B ∧ f.text.size ≤ maxLen ∧ w.cell? (x.add (i * 4)) = some (.int .i64 f.uid) ∧ w.cell? ⟨(x.add (i * 4)).block, (x.add (i * 4)).off + 1, none⟩ = some (.int .i64 f.flags) ∧ w.cell? ⟨(x.add (i * 4)).block, (x.add (i * 4)).off + 2, none⟩ = some (.int .i64 f.mod) ∧ w.cell? ⟨(x.add (i * 4)).block, (x.add (i * 4)).off + 3, none⟩ = some (.string f.text)
theorem ArgMl.below {B : Nat} {w w' : World} {a : Option Addr} {l : List Ml} (h : ArgMl B w a l) (hb : Below B w w') : ArgMl B w' a l := by
  intro i f hf
  obtain ⟨x, h1, h2, z0, c0, c1, c2, c3⟩ := h i f hf
  have hb2 : (x.add (i * 4)).block < B := by rw [g_add]; exact h2
  exact ⟨x, h1, h2, z0, (hb.cell hb2).trans c0, (hb.cell (p := ⟨(x.add (i * 4)).block, _, none⟩) hb2).trans c1, (hb.cell (p := ⟨(x.add (i * 4)).block, _, none⟩) hb2).trans c2, (hb.cell (p := ⟨(x.add (i * 4)).block, _, none⟩) hb2).trans c3⟩
theorem ArgMl.up {w w' : World} {a : Option Addr} {l : List Ml} (h : ArgMl w.heap.size w a l) (hb : Below w.heap.size w w') : ArgMl w'.heap.size w' a l := by
  intro i f hf
  obtain ⟨x, h1, h2, h3⟩ := h.below hb i f hf
  exact ⟨x, h1, Nat.lt_of_lt_of_le h2 hb.size, h3⟩

set_option maxHeartbeats 1000000 in
theorem toMail_any (uid : Int) (flags : Int) (mod : Int) (text : ByteArray) (w : World) :
    Calls Tryz.prog 48 #[.agg #[.int .i64 uid, .int .i64 flags, .int .i64 mod, .string text]] w fun e w' => e = .returned (.agg #[.int .i64 uid, .int .i64 flags, .int .i64 mod, .string text]) ∧ Below w.heap.size w w' := by
  go_enter Tryz.func48, Tryz.ntmps48
  go_wp2
  go_returns
  refine ⟨rfl, ?_⟩
  go_grown
set_option maxHeartbeats 1000000 in
theorem eqMail_same (uid : Int) (flags : Int) (mod : Int) (text : ByteArray) (w : World) :
    Calls Tryz.prog 56 #[.agg #[.int .i64 uid, .int .i64 flags, .int .i64 mod, .string text], .agg #[.int .i64 uid, .int .i64 flags, .int .i64 mod, .string text]] w fun e w' => e = .returned (.bool true) ∧ Below w.heap.size w w' := by
  go_enter Tryz.func56, Tryz.ntmps56
  go_wp2
  go_ret
  refine ⟨rfl, ?_⟩
  go_grown

set_option maxHeartbeats 1000000 in
theorem szMail_any (uid : Int) (flags : Int) (mod : Int) (text : ByteArray) (L : Nat) (w : World) (hL : L ≤ 1048576) (hs : text.size ≤ maxLen) :
    Calls Tryz.prog 40 #[.agg #[.int .i64 uid, .int .i64 flags, .int .i64 mod, .string text], .int .i64 (L : Int)] w fun e w' =>
      (∃ m : Int, e = .returned (.int .i64 m) ∧ (m = -1 ∨ ∃ q : Nat, m = (q : Int) ∧ q ≤ L ∧ text.size ≤ L)) ∧ Below w.heap.size w w' := by
  unfold maxLen at hs
  by_cases h1 : text.size ≤ L
  · have e0 : (text.size : Int) ≤ (L : Int) := by omega
    go_enter Tryz.func40, Tryz.ntmps40
    go_wp2
    go_ret
    exact ⟨⟨_, rfl, .inr ⟨L - text.size, by omega, by omega, h1⟩⟩, (Below.refl _ w).alloc (Nat.le_refl _) _⟩
  · have e0 : (L : Int) < (text.size : Int) := by omega
    go_enter Tryz.func40, Tryz.ntmps40
    go_wp2
    go_ret
    exact ⟨⟨_, rfl, .inl rfl⟩, (Below.refl _ w).alloc (Nat.le_refl _) _⟩
set_option maxHeartbeats 1000000 in
theorem szMailS_any (a : Option Addr) (cap L : Nat) (l : List Ml) (w : World) (hL : L ≤ 1048576) (hm : l.length ≤ maxLen) (h : ArgMl w.heap.size w a l) :
    Calls Tryz.prog 23 #[.slice a l.length cap, .int .i64 (L : Int)] w fun e w' =>
      (∃ m : Int, e = .returned (.int .i64 m) ∧ (m = -1 ∨ ∃ q : Nat, m = (q : Int) ∧ q ≤ L ∧ SmallMl L l)) ∧ Below w.heap.size w w' := by
  unfold maxLen at hm
  obtain ⟨len, hl⟩ : ∃ len, len = l.length := ⟨_, rfl⟩
  rw [← hl] at hm ⊢
  have HL := hide hl
  clear hl
  by_cases hs : len ≤ L
  · have HA := hide h
    have hs' : (len : Int) ≤ (L : Int) := by omega
    clear h
    go_enter Tryz.func23, Tryz.ntmps23
    go_wp2
    go_loopw [1, 5] (fun m i wr => ∃ k q : Nat, k ≤ len ∧ q ≤ L ∧ i = .int .i64 k ∧ m = .int .i64 q ∧ (∀ f ∈ l.take k, f.text.size ≤ L) ∧ Below w.heap.size w wr) (fun _ i _ => len - (intOf i).toNat)
    case atStart => exact ⟨0, L - len, Nat.zero_le _, by omega, rfl, by go_num, by simp, Below.refl _ _⟩
    case round =>
      obtain ⟨k, q, hk, hq, rfl, rfl, hall, hbel⟩ := hrel
      by_cases hlt : k < len
      · have hkl : k < l.length := by have := unhide HL; omega
        obtain ⟨x, rfl, hxb, hz, c0, c1, c2, c3⟩ := (unhide HA).below hbel k l[k] (List.getElem?_eq_getElem hkl)
        have hsnoc := hide (show l.take (k + 1) = l.take k ++ [l[k]] from List.take_succ_eq_append_getElem hkl)
        have HC := hide hall
        clear hall
        generalize l[k] = f at *
        have HZ := hide (fun wx => szMail_any f.uid f.flags f.mod f.text q wx (by omega) hz)
        clear hz
        go_wp2_with fail
        refine (unhide HZ _).mono ?_
        rintro e w1 ⟨⟨m, rfl, hmm⟩, hb1⟩
        rcases hmm with rfl | ⟨q1, rfl, hq1, hq2⟩
        · go_wp2
          go_ret
          exact ⟨⟨_, rfl, .inl rfl⟩, below2 hbel hb1⟩
        · go_wp2
          go_roundw
          case rel =>
            refine ⟨k + 1, q1, by omega, by omega, by go_num, rfl, ?_, below2 hbel hb1⟩
            rw [unhide hsnoc]
            intro f' hf'
            rcases List.mem_append.1 hf' with h1 | h1
            · exact unhide HC f' h1
            · simp at h1; subst h1; omega
          case measure => simp [intOf]; omega
      · have e : k = len := by omega
        subst e
        rw [List.take_of_length_le (by have := unhide HL; omega)] at hall
        have HC := hide hall
        clear hall
        go_wp2
        go_ret
        exact ⟨⟨_, rfl, .inr ⟨q, rfl, hq, by have := unhide HL; unfold SmallMl; exact ⟨by omega, unhide HC⟩⟩⟩, hbel⟩
  · have hs' : (L : Int) < (len : Int) := by omega
    go_enter Tryz.func23, Tryz.ntmps23
    go_wp2
    go_ret
    exact ⟨⟨_, rfl, .inl rfl⟩, Below.refl _ _⟩

set_option maxHeartbeats 1000000 in
set_option maxRecDepth 100000 in
theorem toMailS_any (a : Option Addr) (cap : Nat) (l : List Ml) (w : World) (hs : l.length ≤ 1048576) (h : ArgMl w.heap.size w a l) :
    Calls Tryz.prog 28 #[.slice a l.length cap] w fun e w' => ∃ v, e = .returned v ∧ OwnMl w.heap.size w' v l ∧ Below w.heap.size w w' := by
  obtain ⟨i0, hi, hz0, hz1, hz2⟩ := info_parts Tryz.infoMail
  have HA := hide h
  clear h
  go_enter Tryz.func28, Tryz.ntmps28
  go_wp2_with (refine wpList_make_full _ rfl _ _ 31 rfl w.heap.size 55 i0 _ 4 Tryz.underlying31 hi hz0 hz1 .i64 .i64 _ _ l.length rfl rfl rfl rfl (by rw [hz2]; omega) (by unfold maxLen; omega) (Nat.le_refl _) ?_; intro wm hown hgm)
  rw [rowC_made mlC_len (by decide) (a0 := ml0) rfl] at hown
  have hgl : w.heap.size < wm.heap.size := (hown.lt _ rfl).2
  go_loopw [4] (fun i wr => ∃ k : Nat, k ≤ l.length ∧ i = .int .i64 k ∧ wr.ownsRow w.heap.size 55 4 (.slice (some ⟨w.heap.size, 0, none⟩) l.length l.length) l.length (rowC mlC (laidK ml0 l k)) ∧ Below w.heap.size w wr) (fun i _ => l.length - (intOf i).toNat)
  case atStart => exact ⟨0, Nat.zero_le _, rfl, by rw [laidK_zero]; exact hown, g_below hgm⟩
  case round =>
    obtain ⟨k, hk, rfl, hownk, hbel⟩ := hrel
    clear hown
    by_cases hlt : k < l.length
    · obtain ⟨x, rfl, hxb, _, c0, c1, c2, c3⟩ := (unhide HA).below hbel k l[k] (List.getElem?_eq_getElem hlt)
      have hset := hide (laidK_set ml0 hlt)
      have hget := laidK_at ml0 hlt
      generalize l[k] = f at *
      have HT := hide (fun wx => toMail_any f.uid f.flags f.mod f.text wx)
      have hgr : w.heap.size < wr.heap.size := (hownk.lt _ rfl).2
      have OK := hide hownk
      have HG := hide hget
      clear hownk hget
      go_wp2_with fail
      refine (unhide HT _).mono ?_
      rintro e w1 ⟨rfl, hb1⟩
      have hget := unhide HG
      have own1 : w1.ownsRow w.heap.size 55 4 (.slice (some ⟨w.heap.size, 0, none⟩) l.length l.length) l.length (rowC mlC (laidK ml0 l k)) := g_stays (unhide OK) hb1
      have f0 := own1.frozenAt (k * 4)
      have f1 := own1.frozenAt (k * 4 + 1)
      have f2 := own1.frozenAt (k * 4 + 2)
      have f3 := own1.frozenAt (k * 4 + 3)
      obtain ⟨d0, d1, d2, d3⟩ := ml_cells own1 hget hlt
      have st0 := own1.stored (k * 4) (.int .i64 f.uid)
      rw [show k * 4 = k * 4 + 0 from rfl, rowC_set mlC_len hget (j := 0) (by decide) ⟨f.uid, ml0.flags, ml0.mod, ml0.text⟩ (.int .i64 f.uid) rfl] at st0
      have st1 := st0.1.stored (k * 4 + 1) (.int .i64 f.flags)
      rw [rowC_set2 mlC_len hget ⟨f.uid, ml0.flags, ml0.mod, ml0.text⟩ (j := 1) (by decide) ⟨f.uid, f.flags, ml0.mod, ml0.text⟩ (.int .i64 f.flags) rfl] at st1
      have st2 := st1.1.stored (k * 4 + 2) (.int .i64 f.mod)
      rw [rowC_set2 mlC_len hget ⟨f.uid, f.flags, ml0.mod, ml0.text⟩ (j := 2) (by decide) ⟨f.uid, f.flags, f.mod, ml0.text⟩ (.int .i64 f.mod) rfl] at st2
      have st3 := st2.1.stored (k * 4 + 3) (.string f.text)
      rw [rowC_set2 mlC_len hget ⟨f.uid, f.flags, f.mod, ml0.text⟩ (j := 3) (by decide) ⟨f.uid, f.flags, f.mod, f.text⟩ (.string f.text) rfl] at st3
      rw [show (⟨f.uid, f.flags, f.mod, f.text⟩ : Ml) = f from rfl, unhide hset] at st3
      have HST := hide st3.1
      have hB := hide (((((below2 hbel hb1).setCell (p := ⟨w.heap.size, k * 4, none⟩) (Nat.le_refl _) (.int .i64 f.uid)).setCell (p := ⟨w.heap.size, k * 4 + 1, none⟩) (Nat.le_refl _) (.int .i64 f.flags)).setCell (p := ⟨w.heap.size, k * 4 + 2, none⟩) (Nat.le_refl _) (.int .i64 f.mod)).setCell (p := ⟨w.heap.size, k * 4 + 3, none⟩) (Nat.le_refl _) (.string f.text))
      clear own1 hget st0 st1 st2 st3
      go_wp2
      go_roundw
      case rel => exact ⟨k + 1, by omega, by go_num, unhide HST, unhide hB⟩
      case measure => simp [intOf]; omega
    · have e : k = l.length := by omega
      subst e
      rw [laidK_all] at hownk
      go_wp2
      go_ret
      exact ⟨_, rfl, hownk, hbel⟩

theorem Tryz.cellsLMail : Tryz.prog.cellsOf 76 = 4 := by kernel_rfl
theorem Tryz.cellsMailInt : Tryz.prog.cellsOf 3 = 1 := by kernel_rfl
theorem Tryz.cellsMailStr : Tryz.prog.cellsOf 9 = 1 := by kernel_rfl

set_option maxRecDepth 100000 in
/-- A row of cells, as a slice's field may hold it. -/
theorem open_ml {H : Type} {enc : TypeId × Value → H} {W : World} {base : Nat} {sp : Nat → Bool} {held : Bool} {fuel : Nat} {cs : List Value} {x : DataW H × List MemPlace}
    (hf : DataW.trod enc Tryz.prog W base sp held fuel 22 cs = some x) :
    ∃ (a : Option Addr) (cap : Nat) (l : List Ml), cs = [.slice a l.length cap] ∧ l.length ≤ maxLen ∧ ArgMl W.heap.size W a l := by
  rcases open_slice Tryz.underlying22 hf with ⟨hcs, _⟩ | ⟨a, vn, cap, m, n, D, Pl, hcs, _, hlc, hcm, hm, _, hel⟩
  · exact ⟨none, 0, [], hcs, Nat.zero_le _, fun i f hf => by simp at hf⟩
  · subst hcs
    have hm' : vn ≤ m := by rw [hm]; split <;> omega
    have each : ∀ i, i < vn → ∃ f : Ml, f.text.size ≤ maxLen ∧ W.cell? (a.add (i * 4)) = some (.int .i64 f.uid) ∧ W.cell? ⟨(a.add (i * 4)).block, (a.add (i * 4)).off + 1, none⟩ = some (.int .i64 f.flags) ∧ W.cell? ⟨(a.add (i * 4)).block, (a.add (i * 4)).off + 2, none⟩ = some (.int .i64 f.mod) ∧ W.cell? ⟨(a.add (i * 4)).block, (a.add (i * 4)).off + 3, none⟩ = some (.string f.text) := by
      intro i hi
      obtain ⟨cs', h1, h2⟩ := hel i (by omega)
      rw [Tryz.cellsLMail] at h1
      obtain ⟨_, hlen, hc⟩ := World.cells?_some h1
      obtain ⟨xs, n', _, _, hl', hlen', hfld⟩ := DataW.trod_struct Tryz.underlying76 h2
      match cs', hlen with
      | [u0, u1, u2, u3], _ =>
        have h10 := hfld 0 _ rfl
        have h11 := hfld 1 _ rfl
        have h12 := hfld 2 _ rfl
        have h13 := hfld 3 _ rfl
        match xs, hlen' with
        | [y0, y1, y2, y3], _ =>
          obtain ⟨k0, e0, _, b0⟩ := DataW.trod_int Tryz.underlying3 h10
          obtain ⟨k1, e1, _, b1⟩ := DataW.trod_int Tryz.underlying3 h11
          obtain ⟨k2, e2, _, b2⟩ := DataW.trod_int Tryz.underlying3 h12
          obtain ⟨k3, e3, _, b3⟩ := DataW.trod_string Tryz.underlying9 h13
          simp [Tryz.cellsMailInt, Tryz.cellsMailStr] at e0
          simp [Tryz.cellsMailInt, Tryz.cellsMailStr] at e1
          simp [Tryz.cellsMailInt, Tryz.cellsMailStr] at e2
          simp [Tryz.cellsMailInt, Tryz.cellsMailStr] at e3
          subst e0 e1 e2 e3
          have c0 := hc 0 (by simp)
          have c1 := hc 1 (by simp)
          have c2 := hc 2 (by simp)
          have c3 := hc 3 (by simp)
          rw [show ∀ y : Addr, y.add 1 = ⟨y.block, y.off + 1, none⟩ from fun y => by simp [Addr.add]] at c1
          rw [show ∀ y : Addr, y.add 2 = ⟨y.block, y.off + 2, none⟩ from fun y => by simp [Addr.add]] at c2
          rw [show ∀ y : Addr, y.add 3 = ⟨y.block, y.off + 3, none⟩ from fun y => by simp [Addr.add]] at c3
          refine ⟨⟨k0, k1, k2, k3⟩, b3, ?_, c1, c2, c3⟩
          simpa [Addr.add] using c0
    have inh : Inhabited Ml := ⟨ml0⟩
    obtain ⟨F, hF⟩ := choose_lt (α := Ml) each
    refine ⟨some a, cap, (List.range vn).map F, by simp, by simp; omega, fun i f hf => ?_⟩
    have hi : i < vn := by
      rcases Nat.lt_or_ge i vn with h1 | h1
      · exact h1
      · rw [List.getElem?_eq_none (by simpa using h1)] at hf; cases hf
    obtain rfl : F i = f := by simpa [hi] using hf
    obtain ⟨z3, c0, c1, c2, c3⟩ := hF i hi
    refine ⟨a, rfl, ?_, z3, c0, c1, c2, c3⟩
    have := World.block_lt_of_cell? W _ c0
    rwa [g_add] at this
end Go.Proofs.YtihdgfihdecalaaGreatDoor

/- Rows of Mails that are the same; marks in them. Made by gen_rows.py. -/
namespace Go.Proofs.YtihdgfihdecalaaGreatDoor
open Go.RowKit
open Plain
set_option linter.unusedVariables false

namespace Plain
def mkMl (K : Nat) : Ml := ⟨(K : Int), (K : Int) + 1, (K : Int) + 1 + 1, ⟨(mkL (K + 3)).toArray⟩⟩
end Plain
set_option maxHeartbeats 1000000 in
set_option maxRecDepth 100000 in
theorem eqMailS_same (l : List Ml) (v1 v2 : Value) (B1 B2 : Nat) (w : World) (hs : l.length ≤ 1048576) (h1 : OwnMl B1 w v1 l) (h2 : OwnMl B2 w v2 l) :
    Calls Tryz.prog 32 #[v1, v2] w fun e w' => e = .returned (.bool true) ∧ Below w.heap.size w w' := by
  unfold OwnMl at h1 h2
  obtain ⟨n, hn⟩ : ∃ n, n = l.length := ⟨_, rfl⟩
  rw [← hn] at h1 h2 hs
  by_cases hz : n = 0
  · obtain ⟨a1, c1, rfl⟩ := g_shape h1
    obtain ⟨a2, c2, rfl⟩ := g_shape h2
    clear h1 h2 hn
    subst hz
    go_enter Tryz.func32, Tryz.ntmps32
    go_wp2
    refine wp_loop_rounds 1 ?_
    rw [rounds_succ]
    go_wp2
    go_ret
    exact ⟨rfl, Below.refl _ _⟩
  · rcases h1.2 with ⟨_, h10⟩ | ⟨g1, c1, cur1, rfl, hb1, hh1, _⟩
    · exact absurd h10 hz
    rcases h2.2 with ⟨_, h20⟩ | ⟨g2, c2, cur2, rfl, hb2, hh2, _⟩
    · exact absurd h20 hz
    have hl1 : g1 < w.heap.size := (h1.lt _ rfl).2
    have hl2 : g2 < w.heap.size := (h2.lt _ rfl).2
    have C1 := hide (fun (k : Nat) (f : Ml) (hx : l[k]? = some f) (hk : k < n) => ml_cells h1 hx hk)
    have C2 := hide (fun (k : Nat) (f : Ml) (hx : l[k]? = some f) (hk : k < n) => ml_cells h2 hx hk)
    have HN := hide hn
    clear h1 h2 hh1 hh2 hn
    go_enter Tryz.func32, Tryz.ntmps32
    go_wp2
    go_loopw [5] (fun i wr => ∃ k : Nat, k ≤ n ∧ i = .int .i64 k ∧ Below w.heap.size w wr) (fun i _ => n - (intOf i).toNat)
    case atStart => exact ⟨0, Nat.zero_le _, rfl, Below.refl _ _⟩
    case round =>
      obtain ⟨k, hk, rfl, hbel⟩ := hrel
      by_cases hlt : k < n
      · have hkl : k < l.length := by rw [← unhide HN]; exact hlt
        obtain ⟨c0, c1, c2, c3⟩ := unhide C1 k l[k] (List.getElem?_eq_getElem hkl) hlt
        obtain ⟨d0, d1, d2, d3⟩ := unhide C2 k l[k] (List.getElem?_eq_getElem hkl) hlt
        generalize l[k] = f at *
        obtain ⟨uid, flags, mod, text⟩ := f
        simp only at c0 c1 c2 c3 d0 d1 d2 d3
        have HE := hide (fun wx => eqMail_same uid flags mod text wx)
        rw [← hbel.cell (p := ⟨g1, _, none⟩) hl1] at c0 c1 c2 c3
        rw [← hbel.cell (p := ⟨g2, _, none⟩) hl2] at d0 d1 d2 d3
        have hr1 : g1 < wr.heap.size := Nat.lt_of_lt_of_le hl1 hbel.size
        have hr2 : g2 < wr.heap.size := Nat.lt_of_lt_of_le hl2 hbel.size
        have hik : (0 : Int) ≤ (k : Int) := by omega
        have hil : (k : Int) < (n : Int) := by omega
        go_wp2
        refine wp_region_held_drew (S := fun w' => w'.cell? ⟨g1, k * 4, none⟩ = some (.int .i64 uid) ∧ w'.cell? ⟨g1, k * 4 + 1, none⟩ = some (.int .i64 flags) ∧ w'.cell? ⟨g1, k * 4 + 2, none⟩ = some (.int .i64 mod) ∧ w'.cell? ⟨g1, k * 4 + 3, none⟩ = some (.string text) ∧ w'.cell? ⟨g2, k * 4, none⟩ = some (.int .i64 uid) ∧ w'.cell? ⟨g2, k * 4 + 1, none⟩ = some (.int .i64 flags) ∧ w'.cell? ⟨g2, k * 4 + 2, none⟩ = some (.int .i64 mod) ∧ w'.cell? ⟨g2, k * 4 + 3, none⟩ = some (.string text)) (by kernel_rfl) (⟨c0, c1, c2, c3, d0, d1, d2, d3⟩) (fun hHeld => ?_)
        refine takeVal 0 (some 17) ?_ rfl (by kernel_rfl) (by kernel_rfl) (by kernel_rfl) rfl (fun _ _ _ h => h) (by rfl) (by assumption) ?_ ?_
        rotate_left
        · (intro w hSw; (try dsimp only at hSw); go_simp <;> with_reducible rfl)
        simp only [Act.put, List.setIfInBounds_toArray, List.set_cons_zero, List.set_cons_succ]
        refine takeVal 1 (some 18) ?_ rfl (by kernel_rfl) (by kernel_rfl) (by kernel_rfl) rfl (fun _ _ _ h => h) (by rfl) (by assumption) ?_ ?_
        rotate_left
        · (intro w hSw; (try dsimp only at hSw); go_simp <;> with_reducible rfl)
        simp only [Act.put, List.setIfInBounds_toArray, List.set_cons_zero, List.set_cons_succ]
        refine takeVal 2 (some 19) ?_ rfl (by kernel_rfl) (by kernel_rfl) (by kernel_rfl) rfl (fun _ _ _ h => h) (by rfl) (by assumption) ?_ ?_
        rotate_left
        · (intro w hSw; (try dsimp only at hSw); go_simp <;> with_reducible rfl)
        simp only [Act.put, List.setIfInBounds_toArray, List.set_cons_zero, List.set_cons_succ]
        refine takeVal 3 (some 20) ?_ rfl (by kernel_rfl) (by kernel_rfl) (by kernel_rfl) rfl (fun _ _ _ h => h) (by rfl) (by assumption) ?_ ?_
        rotate_left
        · (intro w hSw; (try dsimp only at hSw); go_simp <;> with_reducible rfl)
        simp only [Act.put, List.setIfInBounds_toArray, List.set_cons_zero, List.set_cons_succ]
        refine takeVal 4 (some 21) ?_ rfl (by kernel_rfl) (by kernel_rfl) (by kernel_rfl) rfl (fun _ _ _ h => h) (by rfl) (by assumption) ?_ ?_
        rotate_left
        · (intro w hSw; (try dsimp only at hSw); go_simp <;> with_reducible rfl)
        simp only [Act.put, List.setIfInBounds_toArray, List.set_cons_zero, List.set_cons_succ]
        refine takeVal 5 (some 22) ?_ rfl (by kernel_rfl) (by kernel_rfl) (by kernel_rfl) rfl (fun _ _ _ h => h) (by rfl) (by assumption) ?_ ?_
        rotate_left
        · (intro w hSw; (try dsimp only at hSw); go_simp <;> with_reducible rfl)
        simp only [Act.put, List.setIfInBounds_toArray, List.set_cons_zero, List.set_cons_succ]
        refine takeVal 6 (some 23) ?_ rfl (by kernel_rfl) (by kernel_rfl) (by kernel_rfl) rfl (fun _ _ _ h => h) (by rfl) (by assumption) ?_ ?_
        rotate_left
        · (intro w hSw; (try dsimp only at hSw); go_simp <;> with_reducible rfl)
        simp only [Act.put, List.setIfInBounds_toArray, List.set_cons_zero, List.set_cons_succ]
        refine takeVal 7 (some 24) ?_ rfl (by kernel_rfl) (by kernel_rfl) (by kernel_rfl) rfl (fun _ _ _ h => h) (by rfl) (by assumption) ?_ ?_
        rotate_left
        · (intro w hSw; (try dsimp only at hSw); go_simp <;> with_reducible rfl)
        simp only [Act.put, List.setIfInBounds_toArray, List.set_cons_zero, List.set_cons_succ]
        refine wpAnyH_ready (rs := [8]) (by kernel_rfl) (by simp) ?_
        refine AllReadyH.cons rfl (fun K hK => ?_) AllReadyH.nil
        go_simp
        refine (unhide HE wr.drew).mono ?_
        rintro e w1 ⟨rfl, hb1⟩
        go_wp2_with fail
        refine hK.out _ _ (⟨g_cell (w := wr.drew) hb1 hHeld.1, g_cell (w := wr.drew) hb1 hHeld.2.1, g_cell (w := wr.drew) hb1 hHeld.2.2.1, g_cell (w := wr.drew) hb1 hHeld.2.2.2.1, g_cell (w := wr.drew) hb1 hHeld.2.2.2.2.1, g_cell (w := wr.drew) hb1 hHeld.2.2.2.2.2.1, g_cell (w := wr.drew) hb1 hHeld.2.2.2.2.2.2.1, g_cell (w := wr.drew) hb1 hHeld.2.2.2.2.2.2.2⟩) (fun hHeld2 => ?_)
        clear hK K hHeld
        have hHeld := hHeld2; clear hHeld2
        try simp only [Act.put, List.setIfInBounds_toArray, List.set_cons_zero, List.set_cons_succ]
        refine takeVal 9 (some 26) ?_ rfl (by kernel_rfl) (by kernel_rfl) (by kernel_rfl) rfl (fun _ _ _ h => h) (by rfl) (by assumption) ?_ ?_
        rotate_left
        · (intro w hSw; (try dsimp only at hSw); go_simp <;> with_reducible rfl)
        simp only [Act.put, List.setIfInBounds_toArray, List.set_cons_zero, List.set_cons_succ]
        refine wpAnyH_done (by kernel_rfl) ?_ _
        go_wp2
        go_roundw
        case rel => exact ⟨k + 1, by omega, by go_num, below2 hbel.drew hb1⟩
        case measure => simp [intOf]; omega
      · go_wp2
        go_ret
        exact ⟨rfl, hbel⟩

set_option maxHeartbeats 2000000 in
set_option maxRecDepth 100000 in
theorem markMailS_any (l : List Ml) (v : Value) (B k0 : Nat) (w : World) (hs : l.length ≤ 1048576) (hk0 : 1 ≤ k0) (hk1 : k0 ≤ 100000000) (h : OwnMl B w v l) :
    Calls Tryz.prog 35 #[v, .int .i64 (k0 : Int)] w fun e w' => e = .returned (.int .i64 ((k0 + l.length * 4 : Nat) : Int)) ∧ OwnMl B w' v (marksK mkMl 4 k0 l.length) ∧ w.grownBy w' v.ownBlock := by
  unfold OwnMl at h ⊢
  rw [marksK_len]
  obtain ⟨n, hn⟩ : ∃ n, n = l.length := ⟨_, rfl⟩
  have HN := hide hn
  rw [← hn] at h hs ⊢
  clear hn
  rcases h.2 with ⟨rfl, hz⟩ | ⟨g, cap, cur, rfl, hbg, hh, hrest⟩
  · subst hz
    have hl : l = [] := List.eq_nil_of_length_eq_zero (unhide HN).symm
    subst hl
    go_enter Tryz.func35, Tryz.ntmps35
    go_wp2
    refine wp_loop_rounds 1 ?_
    rw [rounds_succ]
    go_wp2
    go_ret
    exact ⟨by simp, h, g_self _ _⟩
  · clear hh hrest
    have H0 := hide h
    clear h
    go_enter Tryz.func35, Tryz.ntmps35
    go_wp2
    go_loopw [1, 5] (fun m i wr => ∃ (k K : Nat), k ≤ n ∧ K = k0 + k * 4 ∧ i = .int .i64 k ∧ m = .int .i64 (K : Int) ∧ wr.ownsRow B 55 4 (.slice (some ⟨g, 0, none⟩) n cap) n (rowC mlC (markedK mkMl 4 k0 l k)) ∧ w.grownBy wr (some g)) (fun _ i _ => n - (intOf i).toNat)
    case atStart => exact ⟨0, k0, Nat.zero_le _, by simp, rfl, rfl, by rw [markedK_zero]; exact unhide H0, g_self _ _⟩
    case round =>
      obtain ⟨k, K, hk, hK, rfl, rfl, hown, hgr⟩ := hrel
      by_cases hlt : k < n
      · have hkl : k < l.length := by have := unhide HN; omega
        have hset := hide (markedK_set mkMl 4 k0 hkl)
        have hget := markedK_at mkMl 4 k0 hkl
        have hKb : K ≤ 200000000 := by omega
        have hK0 : 1 ≤ K := by omega
        generalize l[k] = f at *
        rw [← hK] at hset
        have HK := hide hK
        clear hK
        have N3 := fun wx => markText_any (K + 3) wx (by omega) (by omega)
        rw [show ((K + 3 : Nat) : Int) = (K : Int) + 1 + 1 + 1 from by omega] at N3
        have M3 := hide N3
        clear N3
        obtain ⟨y0, d0⟩ := g_some hown (j := k * 4) (by omega)
        have f0 := hown.frozenAt (k * 4)
        obtain ⟨y1, d1⟩ := g_some hown (j := k * 4 + 1) (by omega)
        have f1 := hown.frozenAt (k * 4 + 1)
        obtain ⟨y2, d2⟩ := g_some hown (j := k * 4 + 2) (by omega)
        have f2 := hown.frozenAt (k * 4 + 2)
        have s0 := hown.stored (k * 4) (.int .i64 ((K : Int)))
        have r0 : (rowC mlC (markedK mkMl 4 k0 l k)).set (k * 4) (.int .i64 ((K : Int))) = rowC mlC ((markedK mkMl 4 k0 l k).set k (⟨(K : Int), f.flags, f.mod, f.text⟩ : Ml)) := rowC_set mlC_len hget (j := 0) (by decide) (⟨(K : Int), f.flags, f.mod, f.text⟩ : Ml) (.int .i64 ((K : Int))) rfl
        rw [r0] at s0
        clear r0
        have g10 := g_store (j := k * 4) hgr (.int .i64 ((K : Int)))
        have s1 := s0.1.stored (k * 4 + 1) (.int .i64 ((K : Int) + 1))
        rw [rowC_set2 mlC_len hget (⟨(K : Int), f.flags, f.mod, f.text⟩ : Ml) (j := 1) (by decide) (⟨(K : Int), (K : Int) + 1, f.mod, f.text⟩ : Ml) (.int .i64 ((K : Int) + 1)) rfl] at s1
        have g11 := g_store (j := k * 4 + 1) g10 (.int .i64 ((K : Int) + 1))
        have s2 := s1.1.stored (k * 4 + 2) (.int .i64 ((K : Int) + 1 + 1))
        rw [rowC_set2 mlC_len hget (⟨(K : Int), (K : Int) + 1, f.mod, f.text⟩ : Ml) (j := 2) (by decide) (⟨(K : Int), (K : Int) + 1, (K : Int) + 1 + 1, f.text⟩ : Ml) (.int .i64 ((K : Int) + 1 + 1)) rfl] at s2
        have g12 := g_store (j := k * 4 + 2) g11 (.int .i64 ((K : Int) + 1 + 1))
        have OX0 := hide s2.1
        have GX0 := hide g12
        clear hown hgr s0 g10 s1 g11 s2 g12
        go_wp2_with fail
        obtain ⟨X0, hX⟩ : ∃ X, X = (((wr.setCell ⟨g, k * 4, none⟩ (.int .i64 ((K : Int)))).setCell ⟨g, k * 4 + 1, none⟩ (.int .i64 ((K : Int) + 1))).setCell ⟨g, k * 4 + 2, none⟩ (.int .i64 ((K : Int) + 1 + 1))) := ⟨_, rfl⟩
        rw [← hX] at OX0 GX0 ⊢
        clear hX d0 f0 d1 f1 d2 f2
        refine (unhide M3 X0).mono ?_
        rintro e v0 ⟨rfl, hb⟩
        have ow0 := g_stays (unhide OX0) hb
        have gw0 := g_then (unhide GX0) hb
        clear hb
        obtain ⟨y3, d3⟩ := g_some ow0 (j := k * 4 + 3) (by omega)
        have f3 := ow0.frozenAt (k * 4 + 3)
        have s3 := ow0.stored (k * 4 + 3) (.string ⟨(mkL (K + 3)).toArray⟩)
        rw [rowC_set2 mlC_len hget (⟨(K : Int), (K : Int) + 1, (K : Int) + 1 + 1, f.text⟩ : Ml) (j := 3) (by decide) (⟨(K : Int), (K : Int) + 1, (K : Int) + 1 + 1, ⟨(mkL (K + 3)).toArray⟩⟩ : Ml) (.string ⟨(mkL (K + 3)).toArray⟩) rfl] at s3
        have g13 := g_store (j := k * 4 + 3) gw0 (.string ⟨(mkL (K + 3)).toArray⟩)
        have SZ := hide s3.1
        have GZ := hide g13
        rw [show (⟨(K : Int), (K : Int) + 1, (K : Int) + 1 + 1, ⟨(mkL (K + 3)).toArray⟩⟩ : Ml) = mkMl K from rfl, unhide hset] at SZ
        clear hget ow0 gw0 s3 g13
        go_wp2
        go_roundw
        case rel => exact ⟨k + 1, K + 4, by omega, by have := unhide HK; omega, by go_num, by go_num, unhide SZ, unhide GZ⟩
        case measure => simp [intOf]; omega
      · have e : k = n := by omega
        subst e
        have HK := hide hK
        clear hK
        have hown' : wr.ownsRow B 55 4 (.slice (some ⟨g, 0, none⟩) k cap) k (rowC mlC (marksK mkMl 4 k0 k)) := by
          have e2 : markedK mkMl 4 k0 l k = marksK mkMl 4 k0 k := by rw [unhide HN]; exact markedK_all _ _ _ _
          rw [e2] at hown
          exact hown
        have OO := hide hown'
        have GG := hide hgr
        clear hown hown' hgr
        go_wp2
        go_ret
        exact ⟨by rw [← unhide HK]; rfl, unhide OO, unhide GG⟩

end Go.Proofs.YtihdgfihdecalaaGreatDoor

/- Rows of Tombs: what the laws' own helpers do to them; rows that came in. Made by gen_rows.py. -/
namespace Go.Proofs.YtihdgfihdecalaaGreatDoor
open Go.RowKit Go.ChangeShapes Go.WideShapes Go.ChangeAt Go.Deep
open Plain
set_option linter.unusedVariables false
set_option linter.unusedSimpArgs false

namespace Plain
structure Tb where
  uid : Int
  mod : Int
def tbC (x : Tb) : List Value := [.int .i64 x.uid, .int .i64 x.mod]
theorem tbC_len : ∀ x, (tbC x).length = 2 := fun _ => rfl
def tb0 : Tb := ⟨0, 0⟩
end Plain
theorem Tryz.infoTomb : (Tryz.prog.info? 81).map (fun i => (i.zero, i.size, i.bytes)) = some (some (.agg #[.int .i64 0, .int .i64 0]), 2, 16) := by kernel_rfl
def OwnTb (B : Nat) (w : World) (v : Value) (l : List Tb) : Prop := w.ownsRow B 81 2 v l.length (rowC tbC l)
theorem OwnTb.up {B : Nat} {w w' : World} {v : Value} {l : List Tb} (h : OwnTb B w v l) (hb : Below w.heap.size w w') : OwnTb B w' v l := g_stays h hb
theorem OwnTb.based {B B' : Nat} {w : World} {v : Value} {l : List Tb} (h : OwnTb B w v l) (hB : B' ≤ B) : OwnTb B' w v l := g_based h hB
theorem tb_cells {w : World} {B g n cap : Nat} {l : List Tb} (h : w.ownsRow B 81 2 (.slice (some ⟨g, 0, none⟩) n cap) n (rowC tbC l)) {k : Nat} {f : Tb} (hx : l[k]? = some f) (hk : k < n) :
    w.cell? ⟨g, k * 2, none⟩ = some (.int .i64 f.uid) ∧ w.cell? ⟨g, k * 2 + 1, none⟩ = some (.int .i64 f.mod) := by
  refine ⟨?_, ?_⟩
  · rw [h.cellAt _ (by omega)]; exact rowC_get tbC_len hx (j := 0) (by decide)
  · rw [h.cellAt _ (by omega)]; exact rowC_get tbC_len hx (j := 1) (by decide)
/-- Elements that came in, below block B. -/
def ArgTb (B : Nat) (w : World) (a : Option Addr) (l : List Tb) : Prop :=
  ∀ i f, l[i]? = some f → ∃ x, a = some x ∧ x.block < B ∧ w.cell? (x.add (i * 2)) = some (.int .i64 f.uid) ∧ w.cell? ⟨(x.add (i * 2)).block, (x.add (i * 2)).off + 1, none⟩ = some (.int .i64 f.mod)
theorem ArgTb.below {B : Nat} {w w' : World} {a : Option Addr} {l : List Tb} (h : ArgTb B w a l) (hb : Below B w w') : ArgTb B w' a l := by
  intro i f hf
  obtain ⟨x, h1, h2, c0, c1⟩ := h i f hf
  have hb2 : (x.add (i * 2)).block < B := by rw [g_add]; exact h2
  exact ⟨x, h1, h2, (hb.cell hb2).trans c0, (hb.cell (p := ⟨(x.add (i * 2)).block, _, none⟩) hb2).trans c1⟩
theorem ArgTb.up {w w' : World} {a : Option Addr} {l : List Tb} (h : ArgTb w.heap.size w a l) (hb : Below w.heap.size w w') : ArgTb w'.heap.size w' a l := by
  intro i f hf
  obtain ⟨x, h1, h2, h3⟩ := h.below hb i f hf
  exact ⟨x, h1, Nat.lt_of_lt_of_le h2 hb.size, h3⟩

set_option maxHeartbeats 1000000 in
theorem toTomb_any (uid : Int) (mod : Int) (w : World) :
    Calls Tryz.prog 49 #[.agg #[.int .i64 uid, .int .i64 mod]] w fun e w' => e = .returned (.agg #[.int .i64 uid, .int .i64 mod]) ∧ Below w.heap.size w w' := by
  go_enter Tryz.func49, Tryz.ntmps49
  go_wp2
  go_returns
  refine ⟨rfl, ?_⟩
  go_grown
set_option maxHeartbeats 1000000 in
theorem eqTomb_same (uid : Int) (mod : Int) (w : World) :
    Calls Tryz.prog 57 #[.agg #[.int .i64 uid, .int .i64 mod], .agg #[.int .i64 uid, .int .i64 mod]] w fun e w' => e = .returned (.bool true) ∧ Below w.heap.size w w' := by
  go_enter Tryz.func57, Tryz.ntmps57
  go_wp2
  go_ret
  refine ⟨rfl, ?_⟩
  go_grown

theorem szTombS_any (a : Option Addr) (cap n L : Nat) (w : World) (hL : L ≤ 1048576) (hm : n ≤ maxLen) :
    Calls Tryz.prog 24 #[.slice a n cap, .int .i64 (L : Int)] w fun e w' => (∃ m : Int, e = .returned (.int .i64 m) ∧ (m = -1 ∨ ∃ q : Nat, m = (q : Int) ∧ q ≤ L ∧ n ≤ L)) ∧ w' = w := by
  unfold maxLen at hm
  by_cases hs : n ≤ L
  · have hs' : (n : Int) ≤ (L : Int) := by omega
    go_enter Tryz.func24, Tryz.ntmps24
    go_wp2
    go_ret
    exact ⟨⟨_, rfl, .inr ⟨L - n, by omega, by omega, hs⟩⟩, rfl⟩
  · have hs' : (L : Int) < (n : Int) := by omega
    go_enter Tryz.func24, Tryz.ntmps24
    go_wp2
    go_ret
    exact ⟨⟨_, rfl, .inl rfl⟩, rfl⟩

set_option maxHeartbeats 1000000 in
set_option maxRecDepth 100000 in
theorem toTombS_any (a : Option Addr) (cap : Nat) (l : List Tb) (w : World) (hs : l.length ≤ 1048576) (h : ArgTb w.heap.size w a l) :
    Calls Tryz.prog 29 #[.slice a l.length cap] w fun e w' => ∃ v, e = .returned v ∧ OwnTb w.heap.size w' v l ∧ Below w.heap.size w w' := by
  obtain ⟨i0, hi, hz0, hz1, hz2⟩ := info_parts Tryz.infoTomb
  have HA := hide h
  clear h
  go_enter Tryz.func29, Tryz.ntmps29
  go_wp2_with (refine wpList_make_full _ rfl _ _ 32 rfl w.heap.size 81 i0 _ 2 Tryz.underlying32 hi hz0 hz1 .i64 .i64 _ _ l.length rfl rfl rfl rfl (by rw [hz2]; omega) (by unfold maxLen; omega) (Nat.le_refl _) ?_; intro wm hown hgm)
  rw [rowC_made tbC_len (by decide) (a0 := tb0) rfl] at hown
  have hgl : w.heap.size < wm.heap.size := (hown.lt _ rfl).2
  go_loopw [4] (fun i wr => ∃ k : Nat, k ≤ l.length ∧ i = .int .i64 k ∧ wr.ownsRow w.heap.size 81 2 (.slice (some ⟨w.heap.size, 0, none⟩) l.length l.length) l.length (rowC tbC (laidK tb0 l k)) ∧ Below w.heap.size w wr) (fun i _ => l.length - (intOf i).toNat)
  case atStart => exact ⟨0, Nat.zero_le _, rfl, by rw [laidK_zero]; exact hown, g_below hgm⟩
  case round =>
    obtain ⟨k, hk, rfl, hownk, hbel⟩ := hrel
    clear hown
    by_cases hlt : k < l.length
    · obtain ⟨x, rfl, hxb, c0, c1⟩ := (unhide HA).below hbel k l[k] (List.getElem?_eq_getElem hlt)
      have hset := hide (laidK_set tb0 hlt)
      have hget := laidK_at tb0 hlt
      generalize l[k] = f at *
      have HT := hide (fun wx => toTomb_any f.uid f.mod wx)
      have hgr : w.heap.size < wr.heap.size := (hownk.lt _ rfl).2
      have OK := hide hownk
      have HG := hide hget
      clear hownk hget
      go_wp2_with fail
      refine (unhide HT _).mono ?_
      rintro e w1 ⟨rfl, hb1⟩
      have hget := unhide HG
      have own1 : w1.ownsRow w.heap.size 81 2 (.slice (some ⟨w.heap.size, 0, none⟩) l.length l.length) l.length (rowC tbC (laidK tb0 l k)) := g_stays (unhide OK) hb1
      have f0 := own1.frozenAt (k * 2)
      have f1 := own1.frozenAt (k * 2 + 1)
      obtain ⟨d0, d1⟩ := tb_cells own1 hget hlt
      have st0 := own1.stored (k * 2) (.int .i64 f.uid)
      rw [show k * 2 = k * 2 + 0 from rfl, rowC_set tbC_len hget (j := 0) (by decide) ⟨f.uid, tb0.mod⟩ (.int .i64 f.uid) rfl] at st0
      have st1 := st0.1.stored (k * 2 + 1) (.int .i64 f.mod)
      rw [rowC_set2 tbC_len hget ⟨f.uid, tb0.mod⟩ (j := 1) (by decide) ⟨f.uid, f.mod⟩ (.int .i64 f.mod) rfl] at st1
      rw [show (⟨f.uid, f.mod⟩ : Tb) = f from rfl, unhide hset] at st1
      have HST := hide st1.1
      have hB := hide (((below2 hbel hb1).setCell (p := ⟨w.heap.size, k * 2, none⟩) (Nat.le_refl _) (.int .i64 f.uid)).setCell (p := ⟨w.heap.size, k * 2 + 1, none⟩) (Nat.le_refl _) (.int .i64 f.mod))
      clear own1 hget st0 st1
      go_wp2
      go_roundw
      case rel => exact ⟨k + 1, by omega, by go_num, unhide HST, unhide hB⟩
      case measure => simp [intOf]; omega
    · have e : k = l.length := by omega
      subst e
      rw [laidK_all] at hownk
      go_wp2
      go_ret
      exact ⟨_, rfl, hownk, hbel⟩

theorem Tryz.cellsLTomb : Tryz.prog.cellsOf 88 = 2 := by kernel_rfl
theorem Tryz.cellsTombInt : Tryz.prog.cellsOf 3 = 1 := by kernel_rfl

set_option maxRecDepth 100000 in
/-- A row of cells, as a slice's field may hold it. -/
theorem open_tb {H : Type} {enc : TypeId × Value → H} {W : World} {base : Nat} {sp : Nat → Bool} {held : Bool} {fuel : Nat} {cs : List Value} {x : DataW H × List MemPlace}
    (hf : DataW.trod enc Tryz.prog W base sp held fuel 23 cs = some x) :
    ∃ (a : Option Addr) (cap : Nat) (l : List Tb), cs = [.slice a l.length cap] ∧ l.length ≤ maxLen ∧ ArgTb W.heap.size W a l := by
  rcases open_slice Tryz.underlying23 hf with ⟨hcs, _⟩ | ⟨a, vn, cap, m, n, D, Pl, hcs, _, hlc, hcm, hm, _, hel⟩
  · exact ⟨none, 0, [], hcs, Nat.zero_le _, fun i f hf => by simp at hf⟩
  · subst hcs
    have hm' : vn ≤ m := by rw [hm]; split <;> omega
    have each : ∀ i, i < vn → ∃ f : Tb, W.cell? (a.add (i * 2)) = some (.int .i64 f.uid) ∧ W.cell? ⟨(a.add (i * 2)).block, (a.add (i * 2)).off + 1, none⟩ = some (.int .i64 f.mod) := by
      intro i hi
      obtain ⟨cs', h1, h2⟩ := hel i (by omega)
      rw [Tryz.cellsLTomb] at h1
      obtain ⟨_, hlen, hc⟩ := World.cells?_some h1
      obtain ⟨xs, n', _, _, hl', hlen', hfld⟩ := DataW.trod_struct Tryz.underlying88 h2
      match cs', hlen with
      | [u0, u1], _ =>
        have h10 := hfld 0 _ rfl
        have h11 := hfld 1 _ rfl
        match xs, hlen' with
        | [y0, y1], _ =>
          obtain ⟨k0, e0, _, b0⟩ := DataW.trod_int Tryz.underlying3 h10
          obtain ⟨k1, e1, _, b1⟩ := DataW.trod_int Tryz.underlying3 h11
          simp [Tryz.cellsTombInt] at e0
          simp [Tryz.cellsTombInt] at e1
          subst e0 e1
          have c0 := hc 0 (by simp)
          have c1 := hc 1 (by simp)
          rw [show ∀ y : Addr, y.add 1 = ⟨y.block, y.off + 1, none⟩ from fun y => by simp [Addr.add]] at c1
          refine ⟨⟨k0, k1⟩, ?_, c1⟩
          simpa [Addr.add] using c0
    have inh : Inhabited Tb := ⟨tb0⟩
    obtain ⟨F, hF⟩ := choose_lt (α := Tb) each
    refine ⟨some a, cap, (List.range vn).map F, by simp, by simp; omega, fun i f hf => ?_⟩
    have hi : i < vn := by
      rcases Nat.lt_or_ge i vn with h1 | h1
      · exact h1
      · rw [List.getElem?_eq_none (by simpa using h1)] at hf; cases hf
    obtain rfl : F i = f := by simpa [hi] using hf
    obtain ⟨c0, c1⟩ := hF i hi
    refine ⟨a, rfl, ?_, c0, c1⟩
    have := World.block_lt_of_cell? W _ c0
    rwa [g_add] at this
end Go.Proofs.YtihdgfihdecalaaGreatDoor

/- Rows of Tombs that are the same; marks in them. Made by gen_rows.py. -/
namespace Go.Proofs.YtihdgfihdecalaaGreatDoor
open Go.RowKit
open Plain
set_option linter.unusedVariables false

namespace Plain
def mkTb (K : Nat) : Tb := ⟨(K : Int), (K : Int) + 1⟩
end Plain
set_option maxHeartbeats 1000000 in
set_option maxRecDepth 100000 in
theorem eqTombS_same (l : List Tb) (v1 v2 : Value) (B1 B2 : Nat) (w : World) (hs : l.length ≤ 1048576) (h1 : OwnTb B1 w v1 l) (h2 : OwnTb B2 w v2 l) :
    Calls Tryz.prog 33 #[v1, v2] w fun e w' => e = .returned (.bool true) ∧ Below w.heap.size w w' := by
  unfold OwnTb at h1 h2
  obtain ⟨n, hn⟩ : ∃ n, n = l.length := ⟨_, rfl⟩
  rw [← hn] at h1 h2 hs
  by_cases hz : n = 0
  · obtain ⟨a1, c1, rfl⟩ := g_shape h1
    obtain ⟨a2, c2, rfl⟩ := g_shape h2
    clear h1 h2 hn
    subst hz
    go_enter Tryz.func33, Tryz.ntmps33
    go_wp2
    refine wp_loop_rounds 1 ?_
    rw [rounds_succ]
    go_wp2
    go_ret
    exact ⟨rfl, Below.refl _ _⟩
  · rcases h1.2 with ⟨_, h10⟩ | ⟨g1, c1, cur1, rfl, hb1, hh1, _⟩
    · exact absurd h10 hz
    rcases h2.2 with ⟨_, h20⟩ | ⟨g2, c2, cur2, rfl, hb2, hh2, _⟩
    · exact absurd h20 hz
    have hl1 : g1 < w.heap.size := (h1.lt _ rfl).2
    have hl2 : g2 < w.heap.size := (h2.lt _ rfl).2
    have C1 := hide (fun (k : Nat) (f : Tb) (hx : l[k]? = some f) (hk : k < n) => tb_cells h1 hx hk)
    have C2 := hide (fun (k : Nat) (f : Tb) (hx : l[k]? = some f) (hk : k < n) => tb_cells h2 hx hk)
    have HN := hide hn
    clear h1 h2 hh1 hh2 hn
    go_enter Tryz.func33, Tryz.ntmps33
    go_wp2
    go_loopw [5] (fun i wr => ∃ k : Nat, k ≤ n ∧ i = .int .i64 k ∧ Below w.heap.size w wr) (fun i _ => n - (intOf i).toNat)
    case atStart => exact ⟨0, Nat.zero_le _, rfl, Below.refl _ _⟩
    case round =>
      obtain ⟨k, hk, rfl, hbel⟩ := hrel
      by_cases hlt : k < n
      · have hkl : k < l.length := by rw [← unhide HN]; exact hlt
        obtain ⟨c0, c1⟩ := unhide C1 k l[k] (List.getElem?_eq_getElem hkl) hlt
        obtain ⟨d0, d1⟩ := unhide C2 k l[k] (List.getElem?_eq_getElem hkl) hlt
        generalize l[k] = f at *
        obtain ⟨uid, mod⟩ := f
        simp only at c0 c1 d0 d1
        have HE := hide (fun wx => eqTomb_same uid mod wx)
        rw [← hbel.cell (p := ⟨g1, _, none⟩) hl1] at c0 c1
        rw [← hbel.cell (p := ⟨g2, _, none⟩) hl2] at d0 d1
        have hr1 : g1 < wr.heap.size := Nat.lt_of_lt_of_le hl1 hbel.size
        have hr2 : g2 < wr.heap.size := Nat.lt_of_lt_of_le hl2 hbel.size
        have hik : (0 : Int) ≤ (k : Int) := by omega
        have hil : (k : Int) < (n : Int) := by omega
        go_wp2
        refine wp_region_held_drew (S := fun w' => w'.cell? ⟨g1, k * 2, none⟩ = some (.int .i64 uid) ∧ w'.cell? ⟨g1, k * 2 + 1, none⟩ = some (.int .i64 mod) ∧ w'.cell? ⟨g2, k * 2, none⟩ = some (.int .i64 uid) ∧ w'.cell? ⟨g2, k * 2 + 1, none⟩ = some (.int .i64 mod)) (by kernel_rfl) (⟨c0, c1, d0, d1⟩) (fun hHeld => ?_)
        refine takeVal 0 (some 17) ?_ rfl (by kernel_rfl) (by kernel_rfl) (by kernel_rfl) rfl (fun _ _ _ h => h) (by rfl) (by assumption) ?_ ?_
        rotate_left
        · (intro w hSw; (try dsimp only at hSw); go_simp <;> with_reducible rfl)
        simp only [Act.put, List.setIfInBounds_toArray, List.set_cons_zero, List.set_cons_succ]
        refine takeVal 1 (some 18) ?_ rfl (by kernel_rfl) (by kernel_rfl) (by kernel_rfl) rfl (fun _ _ _ h => h) (by rfl) (by assumption) ?_ ?_
        rotate_left
        · (intro w hSw; (try dsimp only at hSw); go_simp <;> with_reducible rfl)
        simp only [Act.put, List.setIfInBounds_toArray, List.set_cons_zero, List.set_cons_succ]
        refine takeVal 2 (some 19) ?_ rfl (by kernel_rfl) (by kernel_rfl) (by kernel_rfl) rfl (fun _ _ _ h => h) (by rfl) (by assumption) ?_ ?_
        rotate_left
        · (intro w hSw; (try dsimp only at hSw); go_simp <;> with_reducible rfl)
        simp only [Act.put, List.setIfInBounds_toArray, List.set_cons_zero, List.set_cons_succ]
        refine takeVal 3 (some 20) ?_ rfl (by kernel_rfl) (by kernel_rfl) (by kernel_rfl) rfl (fun _ _ _ h => h) (by rfl) (by assumption) ?_ ?_
        rotate_left
        · (intro w hSw; (try dsimp only at hSw); go_simp <;> with_reducible rfl)
        simp only [Act.put, List.setIfInBounds_toArray, List.set_cons_zero, List.set_cons_succ]
        refine takeVal 4 (some 21) ?_ rfl (by kernel_rfl) (by kernel_rfl) (by kernel_rfl) rfl (fun _ _ _ h => h) (by rfl) (by assumption) ?_ ?_
        rotate_left
        · (intro w hSw; (try dsimp only at hSw); go_simp <;> with_reducible rfl)
        simp only [Act.put, List.setIfInBounds_toArray, List.set_cons_zero, List.set_cons_succ]
        refine takeVal 5 (some 22) ?_ rfl (by kernel_rfl) (by kernel_rfl) (by kernel_rfl) rfl (fun _ _ _ h => h) (by rfl) (by assumption) ?_ ?_
        rotate_left
        · (intro w hSw; (try dsimp only at hSw); go_simp <;> with_reducible rfl)
        simp only [Act.put, List.setIfInBounds_toArray, List.set_cons_zero, List.set_cons_succ]
        refine takeVal 6 (some 23) ?_ rfl (by kernel_rfl) (by kernel_rfl) (by kernel_rfl) rfl (fun _ _ _ h => h) (by rfl) (by assumption) ?_ ?_
        rotate_left
        · (intro w hSw; (try dsimp only at hSw); go_simp <;> with_reducible rfl)
        simp only [Act.put, List.setIfInBounds_toArray, List.set_cons_zero, List.set_cons_succ]
        refine takeVal 7 (some 24) ?_ rfl (by kernel_rfl) (by kernel_rfl) (by kernel_rfl) rfl (fun _ _ _ h => h) (by rfl) (by assumption) ?_ ?_
        rotate_left
        · (intro w hSw; (try dsimp only at hSw); go_simp <;> with_reducible rfl)
        simp only [Act.put, List.setIfInBounds_toArray, List.set_cons_zero, List.set_cons_succ]
        refine wpAnyH_ready (rs := [8]) (by kernel_rfl) (by simp) ?_
        refine AllReadyH.cons rfl (fun K hK => ?_) AllReadyH.nil
        go_simp
        refine (unhide HE wr.drew).mono ?_
        rintro e w1 ⟨rfl, hb1⟩
        go_wp2_with fail
        refine hK.out _ _ (⟨g_cell (w := wr.drew) hb1 hHeld.1, g_cell (w := wr.drew) hb1 hHeld.2.1, g_cell (w := wr.drew) hb1 hHeld.2.2.1, g_cell (w := wr.drew) hb1 hHeld.2.2.2⟩) (fun hHeld2 => ?_)
        clear hK K hHeld
        have hHeld := hHeld2; clear hHeld2
        try simp only [Act.put, List.setIfInBounds_toArray, List.set_cons_zero, List.set_cons_succ]
        refine takeVal 9 (some 26) ?_ rfl (by kernel_rfl) (by kernel_rfl) (by kernel_rfl) rfl (fun _ _ _ h => h) (by rfl) (by assumption) ?_ ?_
        rotate_left
        · (intro w hSw; (try dsimp only at hSw); go_simp <;> with_reducible rfl)
        simp only [Act.put, List.setIfInBounds_toArray, List.set_cons_zero, List.set_cons_succ]
        refine wpAnyH_done (by kernel_rfl) ?_ _
        go_wp2
        go_roundw
        case rel => exact ⟨k + 1, by omega, by go_num, below2 hbel.drew hb1⟩
        case measure => simp [intOf]; omega
      · go_wp2
        go_ret
        exact ⟨rfl, hbel⟩

set_option maxHeartbeats 2000000 in
set_option maxRecDepth 100000 in
theorem markTombS_any (l : List Tb) (v : Value) (B k0 : Nat) (w : World) (hs : l.length ≤ 1048576) (hk0 : 1 ≤ k0) (hk1 : k0 ≤ 100000000) (h : OwnTb B w v l) :
    Calls Tryz.prog 36 #[v, .int .i64 (k0 : Int)] w fun e w' => e = .returned (.int .i64 ((k0 + l.length * 2 : Nat) : Int)) ∧ OwnTb B w' v (marksK mkTb 2 k0 l.length) ∧ w.grownBy w' v.ownBlock := by
  unfold OwnTb at h ⊢
  rw [marksK_len]
  obtain ⟨n, hn⟩ : ∃ n, n = l.length := ⟨_, rfl⟩
  have HN := hide hn
  rw [← hn] at h hs ⊢
  clear hn
  rcases h.2 with ⟨rfl, hz⟩ | ⟨g, cap, cur, rfl, hbg, hh, hrest⟩
  · subst hz
    have hl : l = [] := List.eq_nil_of_length_eq_zero (unhide HN).symm
    subst hl
    go_enter Tryz.func36, Tryz.ntmps36
    go_wp2
    refine wp_loop_rounds 1 ?_
    rw [rounds_succ]
    go_wp2
    go_ret
    exact ⟨by simp, h, g_self _ _⟩
  · clear hh hrest
    have H0 := hide h
    clear h
    go_enter Tryz.func36, Tryz.ntmps36
    go_wp2
    go_loopw [1, 5] (fun m i wr => ∃ (k K : Nat), k ≤ n ∧ K = k0 + k * 2 ∧ i = .int .i64 k ∧ m = .int .i64 (K : Int) ∧ wr.ownsRow B 81 2 (.slice (some ⟨g, 0, none⟩) n cap) n (rowC tbC (markedK mkTb 2 k0 l k)) ∧ w.grownBy wr (some g)) (fun _ i _ => n - (intOf i).toNat)
    case atStart => exact ⟨0, k0, Nat.zero_le _, by simp, rfl, rfl, by rw [markedK_zero]; exact unhide H0, g_self _ _⟩
    case round =>
      obtain ⟨k, K, hk, hK, rfl, rfl, hown, hgr⟩ := hrel
      by_cases hlt : k < n
      · have hkl : k < l.length := by have := unhide HN; omega
        have hset := hide (markedK_set mkTb 2 k0 hkl)
        have hget := markedK_at mkTb 2 k0 hkl
        have hKb : K ≤ 200000000 := by omega
        have hK0 : 1 ≤ K := by omega
        generalize l[k] = f at *
        rw [← hK] at hset
        have HK := hide hK
        clear hK
        obtain ⟨y0, d0⟩ := g_some hown (j := k * 2) (by omega)
        have f0 := hown.frozenAt (k * 2)
        obtain ⟨y1, d1⟩ := g_some hown (j := k * 2 + 1) (by omega)
        have f1 := hown.frozenAt (k * 2 + 1)
        have s0 := hown.stored (k * 2) (.int .i64 ((K : Int)))
        have r0 : (rowC tbC (markedK mkTb 2 k0 l k)).set (k * 2) (.int .i64 ((K : Int))) = rowC tbC ((markedK mkTb 2 k0 l k).set k (⟨(K : Int), f.mod⟩ : Tb)) := rowC_set tbC_len hget (j := 0) (by decide) (⟨(K : Int), f.mod⟩ : Tb) (.int .i64 ((K : Int))) rfl
        rw [r0] at s0
        clear r0
        have g10 := g_store (j := k * 2) hgr (.int .i64 ((K : Int)))
        have s1 := s0.1.stored (k * 2 + 1) (.int .i64 ((K : Int) + 1))
        rw [rowC_set2 tbC_len hget (⟨(K : Int), f.mod⟩ : Tb) (j := 1) (by decide) (⟨(K : Int), (K : Int) + 1⟩ : Tb) (.int .i64 ((K : Int) + 1)) rfl] at s1
        have g11 := g_store (j := k * 2 + 1) g10 (.int .i64 ((K : Int) + 1))
        have SZ := hide s1.1
        have GZ := hide g11
        rw [show (⟨(K : Int), (K : Int) + 1⟩ : Tb) = mkTb K from rfl, unhide hset] at SZ
        clear hget hown hgr s0 g10 s1 g11
        go_wp2
        go_roundw
        case rel => exact ⟨k + 1, K + 2, by omega, by have := unhide HK; omega, by go_num, by go_num, unhide SZ, unhide GZ⟩
        case measure => simp [intOf]; omega
      · have e : k = n := by omega
        subst e
        have HK := hide hK
        clear hK
        have hown' : wr.ownsRow B 81 2 (.slice (some ⟨g, 0, none⟩) k cap) k (rowC tbC (marksK mkTb 2 k0 k)) := by
          have e2 : markedK mkTb 2 k0 l k = marksK mkTb 2 k0 k := by rw [unhide HN]; exact markedK_all _ _ _ _
          rw [e2] at hown
          exact hown
        have OO := hide hown'
        have GG := hide hgr
        clear hown hown' hgr
        go_wp2
        go_ret
        exact ⟨by rw [← unhide HK]; rfl, unhide OO, unhide GG⟩

end Go.Proofs.YtihdgfihdecalaaGreatDoor

/- Boxes as values: what the laws' own helpers do to them. Made by gen_boxval.py. -/
namespace Go.Proofs.YtihdgfihdecalaaGreatDoor
open Go.RowKit Go.ChangeShapes Go.WideShapes Go.ChangeAt Go.Deep
open Plain
set_option linter.unusedVariables false
set_option linter.unusedSimpArgs false

namespace Plain
structure Bx where
  name : ByteArray
  valid : Int
  next : Int
  mod : Int
  mails : List Ml
  tombs : List Tb
  hor : Int
/-- None of it is too long. -/
def SmallBx (L : Nat) (b : Bx) : Prop := b.name.size ≤ L ∧ SmallMl L b.mails ∧ b.tombs.length ≤ L
end Plain
abbrev boxV (b : Bx) (m t : Value) : Value := .agg #[.string b.name, .int .i64 b.valid, .int .i64 b.next, .int .i64 b.mod, m, t, .int .i64 b.hor]
/-- A box whose rows are one's own. -/
def OwnBx (B : Nat) (w : World) (m t : Value) (b : Bx) : Prop := OwnMl B w m b.mails ∧ OwnTb B w t b.tombs
theorem OwnBx.up {B : Nat} {w w' : World} {m t : Value} {b : Bx} (h : OwnBx B w m t b) (hb : Below w.heap.size w w') : OwnBx B w' m t b := ⟨h.1.up hb, h.2.up hb⟩
theorem OwnBx.based {B B' : Nat} {w : World} {m t : Value} {b : Bx} (h : OwnBx B w m t b) (hB : B' ≤ B) : OwnBx B' w m t b := ⟨h.1.based hB, h.2.based hB⟩
theorem OwnBx.but {B : Nat} {w w' : World} {S : Nat → Prop} {m t : Value} {b : Bx} (h : OwnBx B w m t b) (hg : GrownBut w w' S) (hS : ∀ g, (m.ownBlock = some g ∨ t.ownBlock = some g) → ¬ S g) : OwnBx B w' m t b :=
  ⟨hg.row h.1 (fun g hg => hS g (.inl hg)), hg.row h.2 (fun g hg => hS g (.inr hg))⟩
theorem OwnBx.base {B : Nat} {w : World} {m t : Value} {b : Bx} (h : OwnBx B w m t b) : ∀ g, (m.ownBlock = some g ∨ t.ownBlock = some g) → B ≤ g ∧ g < w.heap.size := by
  intro g hg
  rcases hg with hg | hg
  · exact h.1.lt g hg
  · exact h.2.lt g hg
/-- A box that came in. -/
structure ArgBx (B : Nat) (w : World) (a1 a2 : Option Addr) (b : Bx) : Prop where
  name : b.name.size ≤ maxLen
  m1 : b.mails.length ≤ maxLen
  m2 : b.tombs.length ≤ maxLen
  mails : ArgMl B w a1 b.mails
  tombs : ArgTb B w a2 b.tombs
theorem ArgBx.below {B : Nat} {w w' : World} {a1 a2 : Option Addr} {b : Bx} (h : ArgBx B w a1 a2 b) (hb : Below B w w') : ArgBx B w' a1 a2 b := ⟨h.name, h.m1, h.m2, h.mails.below hb, h.tombs.below hb⟩
theorem ArgBx.up {w w' : World} {a1 a2 : Option Addr} {b : Bx} (h : ArgBx w.heap.size w a1 a2 b) (hb : Below w.heap.size w w') : ArgBx w'.heap.size w' a1 a2 b := ⟨h.name, h.m1, h.m2, h.mails.up hb, h.tombs.up hb⟩

set_option maxHeartbeats 4000000 in
set_option maxRecDepth 100000 in
theorem toBox_any (b : Bx) (a1 a2 : Option Addr) (c1 c2 : Nat) (w : World) (hs : SmallBx 1048576 b) (h : ArgBx w.heap.size w a1 a2 b) :
    Calls Tryz.prog 8 #[.agg #[.string b.name, .int .i64 b.valid, .int .i64 b.next, .int .i64 b.mod, .slice a1 b.mails.length c1, .slice a2 b.tombs.length c2, .int .i64 b.hor]] w fun e w' => ∃ m t, e = .returned (boxV b m t) ∧ OwnBx w.heap.size w' m t b ∧ Below w.heap.size w w' := by
  have HA := hide h
  have HS := hide hs
  clear h hs
  have n0 := HasObj.new w 25 [.string b.name, .int .i64 b.valid, .int .i64 b.next, .int .i64 b.mod, .slice a1 b.mails.length c1, .slice a2 b.tombs.length c2, .int .i64 b.hor]
  have n1 := HasObj.new (w.alloc (.cells ([.string b.name, .int .i64 b.valid, .int .i64 b.next, .int .i64 b.mod, .slice a1 b.mails.length c1, .slice a2 b.tombs.length c2, .int .i64 b.hor] : List Value).toArray 25)) 34 [.string ⟨#[]⟩, .int .i64 0, .int .i64 0, .int .i64 0, .slice none 0 0, .slice none 0 0, .int .i64 0]
  have n2 := HasObj.new ((w.alloc (.cells ([.string b.name, .int .i64 b.valid, .int .i64 b.next, .int .i64 b.mod, .slice a1 b.mails.length c1, .slice a2 b.tombs.length c2, .int .i64 b.hor] : List Value).toArray 25)).alloc (.cells ([.string ⟨#[]⟩, .int .i64 0, .int .i64 0, .int .i64 0, .slice none 0 0, .slice none 0 0, .int .i64 0] : List Value).toArray 34)) 34 [.string b.name, .int .i64 b.valid, .int .i64 b.next, .int .i64 b.mod, .slice none 0 0, .slice none 0 0, .int .i64 0]
  obtain ⟨X, hX⟩ : ∃ X, X = (((w.alloc (.cells ([.string b.name, .int .i64 b.valid, .int .i64 b.next, .int .i64 b.mod, .slice a1 b.mails.length c1, .slice a2 b.tombs.length c2, .int .i64 b.hor] : List Value).toArray 25)).alloc (.cells ([.string ⟨#[]⟩, .int .i64 0, .int .i64 0, .int .i64 0, .slice none 0 0, .slice none 0 0, .int .i64 0] : List Value).toArray 34)).alloc (.cells ([.string b.name, .int .i64 b.valid, .int .i64 b.next, .int .i64 b.mod, .slice none 0 0, .slice none 0 0, .int .i64 0] : List Value).toArray 34)) := ⟨_, rfl⟩
  rw [World.size_alloc] at n1
  rw [World.size_alloc, World.size_alloc] at n2
  have x0 : HasObj X w.heap.size 25 [.string b.name, .int .i64 b.valid, .int .i64 b.next, .int .i64 b.mod, .slice a1 b.mails.length c1, .slice a2 b.tombs.length c2, .int .i64 b.hor] := by rw [hX]; exact (n0.alloc _).alloc _
  have x1 : HasObj X (w.heap.size + 1) 34 [.string ⟨#[]⟩, .int .i64 0, .int .i64 0, .int .i64 0, .slice none 0 0, .slice none 0 0, .int .i64 0] := by rw [hX]; exact n1.alloc _
  have x2 : HasObj X (w.heap.size + 1 + 1) 34 [.string b.name, .int .i64 b.valid, .int .i64 b.next, .int .i64 b.mod, .slice none 0 0, .slice none 0 0, .int .i64 0] := by rw [hX]; exact n2
  have hbX : Below w.heap.size w X := by rw [hX]; exact ((((Below.refl _ w).alloc (Nat.le_refl _) _).alloc (by simp) _).alloc (by simp; omega) _)
  have hsX : X.heap.size = w.heap.size + 3 := by rw [hX]; simp
  have HX := hX.symm
  have HM := hide (toMailS_any a1 c1 b.mails X (unhide HS).2.1.1 ((unhide HA).up hbX).mails)
  have k4 := x0.cell 4 rfl
  have X0 := hide x0
  have X1 := hide x1
  have X2 := hide x2
  have BX := hide hbX
  have SX := hide hsX
  clear n0 n1 n2 x0 x1 x2 hbX hsX hX
  go_enter Tryz.func8, Tryz.ntmps8
  go_wp2_with fail
  clear k4 HX
  refine (unhide HM).mono ?_
  rintro e w1 ⟨m, rfl, om, hb1⟩
  obtain ⟨am, cm, rfl⟩ := g_shape om
  have hB1 : Below w.heap.size w w1 := (unhide BX).trans (hb1.mono (unhide BX).size)
  have y0 := (unhide X0).ups hb1
  have y1 := (unhide X1).ups hb1
  have y2 := (unhide X2).ups hb1
  have q4 := y2.cell 4 rfl
  have f4 := y2.frozen 4
  have ne02 : w.heap.size ≠ w.heap.size + 1 + 1 := by omega
  have ne12 : w.heap.size + 1 ≠ w.heap.size + 1 + 1 := by omega
  obtain ⟨Y, hY⟩ : ∃ Y, Y = w1.setCell ⟨w.heap.size + 1 + 1, 4, none⟩ (.slice am b.mails.length cm) := ⟨_, rfl⟩
  have Y0 := y0.other (j := 4) ne02 (.slice am b.mails.length cm)
  have Y1 := y1.other (j := 4) ne12 (.slice am b.mails.length cm)
  have Y2 := y2.set 4 (.slice am b.mails.length cm)
  have OY := y2.row (j := 4) (by decide) om (.slice am b.mails.length cm)
  have hBY : Below w.heap.size w Y := by rw [hY]; exact hB1.setCell (p := ⟨w.heap.size + 1 + 1, 4, none⟩) (by show w.heap.size ≤ w.heap.size + 1 + 1; omega) _
  rw [← hY] at Y0 Y1 Y2 OY
  have HT := hide (toTombS_any a2 c2 b.tombs Y (unhide HS).2.2 ((unhide HA).up hBY).tombs)
  have HY := hY.symm
  have c5 := Y0.cell 5 rfl
  have Y0 := hide Y0
  have Y1 := hide Y1
  have Y2 := hide Y2
  have OY := hide OY
  have BY := hide hBY
  have XS := hide ((unhide BX).size)
  clear om hb1 hB1 y0 y1 y2 hY hBY HM
  go_wp2_with fail
  clear c5 q4 f4 HY
  refine (unhide HT).mono ?_
  rintro e w2 ⟨t, rfl, ot, hb2⟩
  obtain ⟨at', ct, rfl⟩ := g_shape ot
  have z0 := (unhide Y0).ups hb2
  have z1 := (unhide Y1).ups hb2
  have z2 := (unhide Y2).ups hb2
  have O2 := g_stays (unhide OY) hb2
  have hB2 : Below w.heap.size w w2 := (unhide BY).trans (hb2.mono (unhide BY).size)
  have c6 := z0.cell 6 rfl
  have d0 := z2.cell 0 rfl
  have d1 := z2.cell 1 rfl
  have d2 := z2.cell 2 rfl
  have d3 := z2.cell 3 rfl
  have d4 := z2.cell 4 rfl
  have d5 := z2.cell 5 rfl
  have d6 := z2.cell 6 rfl
  have g5 := z2.frozen 5
  have g6 := z2.frozen 6
  have e0 := z1.cell 0 rfl
  have e1 := z1.cell 1 rfl
  have e2 := z1.cell 2 rfl
  have e3 := z1.cell 3 rfl
  have e4 := z1.cell 4 rfl
  have e5 := z1.cell 5 rfl
  have e6 := z1.cell 6 rfl
  have h0 := z1.frozen 0
  have h1 := z1.frozen 1
  have h2 := z1.frozen 2
  have h3 := z1.frozen 3
  have h4 := z1.frozen 4
  have h5 := z1.frozen 5
  have h6 := z1.frozen 6
  have P1 := z2.row (j := 5) (by decide) O2 (.slice at' b.tombs.length ct)
  have P2 := z2.row (j := 5) (by decide) ot (.slice at' b.tombs.length ct)
  have s5 := z2.set 5 (.slice at' b.tombs.length ct)
  have Q1 := s5.row (j := 6) (by decide) P1 (.int .i64 b.hor)
  have Q2 := s5.row (j := 6) (by decide) P2 (.int .i64 b.hor)
  have s6 := s5.set 6 (.int .i64 b.hor)
  have r1 := (z1.other (j := 5) ne12 (.slice at' b.tombs.length ct)).other (j := 6) ne12 (.int .i64 b.hor)
  have B3 := (hB2.setCell (p := ⟨w.heap.size + 1 + 1, 5, none⟩) (by show w.heap.size ≤ w.heap.size + 1 + 1; omega) (.slice at' b.tombs.length ct)).setCell (p := ⟨w.heap.size + 1 + 1, 6, none⟩) (by show w.heap.size ≤ w.heap.size + 1 + 1; omega) (.int .i64 b.hor)
  have P1 := hide P1
  have P2 := hide P2
  have Q1 := hide Q1
  have Q2 := hide Q2
  have s5 := hide s5
  have s6 := hide s6
  have r1 := hide r1
  have B3 := hide B3
  clear O2 ot hb2 hB2 z0 z1 z2 HT
  go_wp2
  obtain ⟨Z, hZ⟩ : ∃ Z, Z = (w2.setCell ⟨w.heap.size + 1 + 1, 5, none⟩ (.slice at' b.tombs.length ct)).setCell ⟨w.heap.size + 1 + 1, 6, none⟩ (.int .i64 b.hor) := ⟨_, rfl⟩
  have R0 := unhide r1
  have M0 := unhide Q1
  have T0 := unhide Q2
  have L0 := unhide B3
  rw [← hZ] at R0 M0 T0 L0 ⊢
  have R1 := R0.set 0 (.string b.name)
  have M1 := R0.row (j := 0) (by decide) M0 (.string b.name)
  have T1 := R0.row (j := 0) (by decide) T0 (.string b.name)
  have L1 := L0.setCell (p := ⟨w.heap.size + 1, 0, none⟩) (by show w.heap.size ≤ w.heap.size + 1; omega) (.string b.name)
  have R2 := R1.set 1 (.int .i64 b.valid)
  have M2 := R1.row (j := 1) (by decide) M1 (.int .i64 b.valid)
  have T2 := R1.row (j := 1) (by decide) T1 (.int .i64 b.valid)
  have L2 := L1.setCell (p := ⟨w.heap.size + 1, 1, none⟩) (by show w.heap.size ≤ w.heap.size + 1; omega) (.int .i64 b.valid)
  have R3 := R2.set 2 (.int .i64 b.next)
  have M3 := R2.row (j := 2) (by decide) M2 (.int .i64 b.next)
  have T3 := R2.row (j := 2) (by decide) T2 (.int .i64 b.next)
  have L3 := L2.setCell (p := ⟨w.heap.size + 1, 2, none⟩) (by show w.heap.size ≤ w.heap.size + 1; omega) (.int .i64 b.next)
  have R4 := R3.set 3 (.int .i64 b.mod)
  have M4 := R3.row (j := 3) (by decide) M3 (.int .i64 b.mod)
  have T4 := R3.row (j := 3) (by decide) T3 (.int .i64 b.mod)
  have L4 := L3.setCell (p := ⟨w.heap.size + 1, 3, none⟩) (by show w.heap.size ≤ w.heap.size + 1; omega) (.int .i64 b.mod)
  have R5 := R4.set 4 (.slice am b.mails.length cm)
  have M5 := R4.row (j := 4) (by decide) M4 (.slice am b.mails.length cm)
  have T5 := R4.row (j := 4) (by decide) T4 (.slice am b.mails.length cm)
  have L5 := L4.setCell (p := ⟨w.heap.size + 1, 4, none⟩) (by show w.heap.size ≤ w.heap.size + 1; omega) (.slice am b.mails.length cm)
  have R6 := R5.set 5 (.slice at' b.tombs.length ct)
  have M6 := R5.row (j := 5) (by decide) M5 (.slice at' b.tombs.length ct)
  have T6 := R5.row (j := 5) (by decide) T5 (.slice at' b.tombs.length ct)
  have L6 := L5.setCell (p := ⟨w.heap.size + 1, 5, none⟩) (by show w.heap.size ≤ w.heap.size + 1; omega) (.slice at' b.tombs.length ct)
  have R7 := R6.set 6 (.int .i64 b.hor)
  have M7 := R6.row (j := 6) (by decide) M6 (.int .i64 b.hor)
  have T7 := R6.row (j := 6) (by decide) T6 (.int .i64 b.hor)
  have L7 := L6.setCell (p := ⟨w.heap.size + 1, 6, none⟩) (by show w.heap.size ≤ w.heap.size + 1; omega) (.int .i64 b.hor)
  obtain ⟨V, hV⟩ : ∃ V, V = (((((((Z.setCell ⟨w.heap.size + 1, 0, none⟩ (.string b.name)).setCell ⟨w.heap.size + 1, 1, none⟩ (.int .i64 b.valid)).setCell ⟨w.heap.size + 1, 2, none⟩ (.int .i64 b.next)).setCell ⟨w.heap.size + 1, 3, none⟩ (.int .i64 b.mod)).setCell ⟨w.heap.size + 1, 4, none⟩ (.slice am b.mails.length cm)).setCell ⟨w.heap.size + 1, 5, none⟩ (.slice at' b.tombs.length ct)).setCell ⟨w.heap.size + 1, 6, none⟩ (.int .i64 b.hor)) := ⟨_, rfl⟩
  rw [← hV] at R7 M7 T7 L7 ⊢
  have v0 := R7.cell 0 rfl
  have v1 := R7.cell 1 rfl
  have v2 := R7.cell 2 rfl
  have v3 := R7.cell 3 rfl
  have v4 := R7.cell 4 rfl
  have v5 := R7.cell 5 rfl
  have v6 := R7.cell 6 rfl
  refine bodyPost_ret (by simp [results, Tryz.results8, go_sem, v0, v1, v2, v3, v4, v5, v6]; try rfl) rfl ?_
  refine ⟨_, _, rfl, ⟨g_based M7 (unhide BX).size, g_based T7 (unhide BY).size⟩, L7⟩
end Go.Proofs.YtihdgfihdecalaaGreatDoor

/- Boxes: sizes, sameness, marks; a box that came in, opened. Made by gen_boxmarks.py. -/
namespace Go.Proofs.YtihdgfihdecalaaGreatDoor
open Go.RowKit Go.ChangeShapes Go.WideShapes Go.ChangeAt Go.Deep
open Plain
set_option linter.unusedVariables false
set_option linter.unusedSimpArgs false

set_option maxHeartbeats 4000000 in
set_option maxRecDepth 100000 in
theorem szBox_any (b : Bx) (a1 a2 : Option Addr) (c1 c2 : Nat) (w : World) (h : ArgBx w.heap.size w a1 a2 b) :
    Calls Tryz.prog 5 #[.agg #[.string b.name, .int .i64 b.valid, .int .i64 b.next, .int .i64 b.mod, .slice a1 b.mails.length c1, .slice a2 b.tombs.length c2, .int .i64 b.hor], .int .i64 1048576] w fun e w' => (∃ m : Int, e = .returned (.int .i64 m) ∧ (m = -1 ∨ ∃ q : Nat, m = (q : Int) ∧ q ≤ 1048576 ∧ SmallBx 1048576 b)) ∧ Below w.heap.size w w' := by
  have hn := h.name
  have hm2 := h.m2
  unfold maxLen at hn
  by_cases h1 : b.name.size ≤ 1048576
  · obtain ⟨L, hL⟩ : ∃ L, L = 1048576 - b.name.size := ⟨_, rfl⟩
    have e0 : (1048576 : Int) - (b.name.size : Int) = (L : Int) := by omega
    have hL2 : L ≤ 1048576 := by omega
    obtain ⟨X, hX⟩ : ∃ X, X = w.alloc (.cells ([.string b.name, .int .i64 b.valid, .int .i64 b.next, .int .i64 b.mod, .slice a1 b.mails.length c1, .slice a2 b.tombs.length c2, .int .i64 b.hor] : List Value).toArray 25) := ⟨_, rfl⟩
    have x0 : HasObj X w.heap.size 25 [.string b.name, .int .i64 b.valid, .int .i64 b.next, .int .i64 b.mod, .slice a1 b.mails.length c1, .slice a2 b.tombs.length c2, .int .i64 b.hor] := by rw [hX]; exact HasObj.new _ _ _
    have hbX : Below w.heap.size w X := by rw [hX]; exact (Below.refl _ _).alloc (Nat.le_refl _) _
    have hA := h.up hbX
    have HM := hide (szMailS_any a1 c1 L b.mails X hL2 hA.m1 hA.mails)
    have HA := hide h
    have k0 := x0.cell 0 rfl
    have k4 := x0.cell 4 rfl
    have X0 := hide x0
    have BX := hide hbX
    have HX := hX.symm
    have i1 : ¬ (L : Int) < 0 := by omega
    clear h hX x0 hbX hA hL
    go_enter Tryz.func5, Tryz.ntmps5
    go_wp2_with fail
    refine (unhide HM).mono ?_
    rintro e w1 ⟨⟨m, rfl, hmm⟩, hb1⟩
    have B1 := hide ((unhide BX).trans (hb1.mono (unhide BX).size))
    have y0 := (unhide X0).ups hb1
    have k5 := y0.cell 5 rfl
    clear hb1 HX k0 k4
    rcases hmm with rfl | ⟨q1, rfl, hq1, hs1⟩
    · go_wp2
      go_ret
      exact ⟨⟨_, rfl, .inl rfl⟩, unhide B1⟩
    · have HT := hide (szTombS_any a2 c2 b.tombs.length q1 w1 (by omega) hm2)
      have i2 : ¬ (q1 : Int) < 0 := by omega
      go_wp2_with fail
      refine (unhide HT).mono ?_
      rintro e w2 ⟨⟨m2, rfl, hmm2⟩, hw⟩
      subst w2
      rcases hmm2 with rfl | ⟨q2, rfl, hq2, hs2⟩
      · go_wp2
        go_ret
        exact ⟨⟨_, rfl, .inl rfl⟩, unhide B1⟩
      · have i3 : ¬ (q2 : Int) < 0 := by omega
        go_wp2
        go_ret
        exact ⟨⟨_, rfl, .inr ⟨q2, rfl, by omega, ⟨h1, ⟨by have := hs1.1; omega, fun x hx => by have := hs1.2 x hx; omega⟩, by omega⟩⟩⟩, unhide B1⟩
  · have e0 : (1048576 : Int) - (b.name.size : Int) < 0 := by omega
    go_enter Tryz.func5, Tryz.ntmps5
    go_wp2
    go_ret
    exact ⟨⟨_, rfl, .inl rfl⟩, (Below.refl _ _).alloc (Nat.le_refl _) _⟩

set_option maxHeartbeats 4000000 in
set_option maxRecDepth 100000 in
theorem eqBox_same (b : Bx) (m1 t1 m2 t2 : Value) (B1 B2 : Nat) (w : World) (hs1 : b.mails.length ≤ 1048576) (hs2 : b.tombs.length ≤ 1048576) (h1 : OwnBx B1 w m1 t1 b) (h2 : OwnBx B2 w m2 t2 b) :
    Calls Tryz.prog 12 #[boxV b m1 t1, boxV b m2 t2] w fun e w' => e = .returned (.bool true) ∧ Below w.heap.size w w' := by
  obtain ⟨am, cm, rfl⟩ := g_shape h1.1
  obtain ⟨at1, ct1, rfl⟩ := g_shape h1.2
  obtain ⟨am2, cm2, rfl⟩ := g_shape h2.1
  obtain ⟨at2, ct2, rfl⟩ := g_shape h2.2
  have n0 := HasObj.new w 34 [.string b.name, .int .i64 b.valid, .int .i64 b.next, .int .i64 b.mod, .slice am b.mails.length cm, .slice at1 b.tombs.length ct1, .int .i64 b.hor]
  have n1 := HasObj.new (w.alloc (.cells ([.string b.name, .int .i64 b.valid, .int .i64 b.next, .int .i64 b.mod, .slice am b.mails.length cm, .slice at1 b.tombs.length ct1, .int .i64 b.hor] : List Value).toArray 34)) 34 [.string b.name, .int .i64 b.valid, .int .i64 b.next, .int .i64 b.mod, .slice am2 b.mails.length cm2, .slice at2 b.tombs.length ct2, .int .i64 b.hor]
  rw [World.size_alloc] at n1
  obtain ⟨X, hX⟩ : ∃ X, X = (w.alloc (.cells ([.string b.name, .int .i64 b.valid, .int .i64 b.next, .int .i64 b.mod, .slice am b.mails.length cm, .slice at1 b.tombs.length ct1, .int .i64 b.hor] : List Value).toArray 34)).alloc (.cells ([.string b.name, .int .i64 b.valid, .int .i64 b.next, .int .i64 b.mod, .slice am2 b.mails.length cm2, .slice at2 b.tombs.length ct2, .int .i64 b.hor] : List Value).toArray 34) := ⟨_, rfl⟩
  have x0 : HasObj X w.heap.size 34 [.string b.name, .int .i64 b.valid, .int .i64 b.next, .int .i64 b.mod, .slice am b.mails.length cm, .slice at1 b.tombs.length ct1, .int .i64 b.hor] := by rw [hX]; exact n0.alloc _
  have x1 : HasObj X (w.heap.size + 1) 34 [.string b.name, .int .i64 b.valid, .int .i64 b.next, .int .i64 b.mod, .slice am2 b.mails.length cm2, .slice at2 b.tombs.length ct2, .int .i64 b.hor] := by rw [hX]; exact n1
  have hbX : Below w.heap.size w X := by rw [hX]; exact ((Below.refl _ _).alloc (Nat.le_refl _) _).alloc (by simp) _
  have HM := hide (eqMailS_same b.mails _ _ B1 B2 X hs1 (h1.up hbX).1 (h2.up hbX).1)
  have O1 := hide (h1.up hbX)
  have O2 := hide (h2.up hbX)
  have p0 := x0.cell 0 rfl
  have q0 := x1.cell 0 rfl
  have p1 := x0.cell 1 rfl
  have q1 := x1.cell 1 rfl
  have p2 := x0.cell 2 rfl
  have q2 := x1.cell 2 rfl
  have p3 := x0.cell 3 rfl
  have q3 := x1.cell 3 rfl
  have p4 := x0.cell 4 rfl
  have q4 := x1.cell 4 rfl

  have X0 := hide x0
  have X1 := hide x1
  have BX := hide hbX
  have HX := hX.symm
  clear n0 n1 x0 x1 hbX hX h1 h2
  go_enter Tryz.func12, Tryz.ntmps12
  go_wp2_with fail
  refine (unhide HM).mono ?_
  rintro e w1 ⟨rfl, hb1⟩
  have y0 := (unhide X0).ups hb1
  have y1 := (unhide X1).ups hb1
  have r5 := y0.cell 5 rfl
  have s5 := y1.cell 5 rfl
  have HT := hide (eqTombS_same b.tombs _ _ B1 B2 w1 hs2 ((unhide O1).up hb1).2 ((unhide O2).up hb1).2)
  have B1' := hide ((unhide BX).trans (hb1.mono (unhide BX).size))
  have Y0 := hide y0
  have Y1 := hide y1
  clear y0 y1 hb1 HX p0 q0 p1 q1 p2 q2 p3 q3 p4 q4
  go_wp2_with fail
  refine (unhide HT).mono ?_
  rintro e w2 ⟨rfl, hb2⟩
  have r6 := ((unhide Y0).ups hb2).cell 6 rfl
  have s6 := ((unhide Y1).ups hb2).cell 6 rfl
  have B2' := hide ((unhide B1').trans (hb2.mono (unhide B1').size))
  clear hb2 r5 s5
  go_wp2
  go_ret
  exact ⟨rfl, unhide B2'⟩

theorem Tryz.cellsLBox : Tryz.prog.cellsOf 25 = 7 := by kernel_rfl
theorem Tryz.cellsLMailS : Tryz.prog.cellsOf 22 = 1 := by kernel_rfl
theorem Tryz.cellsLTombS : Tryz.prog.cellsOf 23 = 1 := by kernel_rfl
set_option maxRecDepth 100000 in
theorem open_box {H : Type} {enc : TypeId × Value → H} {W : World} {base : Nat} {v : Value} {d : DataW H} {ps : List MemPlace} (hval : Value.okWide Tryz.prog W .any base 25 v)
    (h : DataW.Trod enc Tryz.prog W 0 (fun _ => true) true 25 v d ps) :
    ∃ (b : Bx) (a1 a2 : Option Addr) (c1 c2 : Nat), v = .agg #[.string b.name, .int .i64 b.valid, .int .i64 b.next, .int .i64 b.mod, .slice a1 b.mails.length c1, .slice a2 b.tombs.length c2, .int .i64 b.hor] ∧ ArgBx W.heap.size W a1 a2 b := by
  obtain ⟨cs, rfl, hsz⟩ := okWide_struct Tryz.underlying25 hval
  obtain ⟨fuel, hf⟩ := h
  obtain ⟨xs, n, _, _, hl, hlen, hfld⟩ := DataW.trod_struct Tryz.underlying25 hf
  have h0 := hfld 0 _ rfl
  have h1 := hfld 1 _ rfl
  have h2 := hfld 2 _ rfl
  have h3 := hfld 3 _ rfl
  have h4 := hfld 4 _ rfl
  have h5 := hfld 5 _ rfl
  have h6 := hfld 6 _ rfl
  rw [Tryz.cellsLBox] at hsz
  obtain ⟨l0⟩ := cs
  match l0, hsz, xs, hlen with
  | [u0, u1, u2, u3, u4, u5, u6], _, [y0, y1, y2, y3, y4, y5, y6], _ =>
    obtain ⟨k0, e0, _, z0⟩ := DataW.trod_string Tryz.underlying9 h0
    obtain ⟨k1, e1, _, z1⟩ := DataW.trod_int Tryz.underlying3 h1
    obtain ⟨k2, e2, _, z2⟩ := DataW.trod_int Tryz.underlying3 h2
    obtain ⟨k3, e3, _, z3⟩ := DataW.trod_int Tryz.underlying3 h3
    obtain ⟨a1, c1, l1, e4, m1, A1⟩ := open_ml h4
    obtain ⟨a2, c2, l2, e5, m2, A2⟩ := open_tb h5
    obtain ⟨k6, e6, _, z6⟩ := DataW.trod_int Tryz.underlying3 h6
    simp [Value.cells, Tryz.cellsMailStr] at e0
    simp [Value.cells, Tryz.cellsMailInt] at e1 e2 e3 e6
    simp [Value.cells, Tryz.cellsLMailS] at e4
    simp [Value.cells, Tryz.cellsLTombS] at e5
    subst e0 e1 e2 e3 e4 e5 e6
    exact ⟨⟨k0, k1, k2, k3, l1, l2, k6⟩, a1, a2, c1, c2, rfl, ⟨z0, m1, m2, A1, A2⟩⟩
end Go.Proofs.YtihdgfihdecalaaGreatDoor

/- The ledger of the laws on boxes: what every step carries on. -/
namespace Go.Proofs.YtihdgfihdecalaaGreatDoor
open Go.RowKit
open Plain
set_option linter.unusedVariables false

theorem HasObj.drew {W : World} {b : Nat} {t : TypeId} {vs : List Value} (h : HasObj W b t vs) : HasObj W.drew b t vs := h
theorem OwnBx.drew {B : Nat} {W : World} {m t : Value} {b : Bx} (h : OwnBx B W m t b) : OwnBx B W.drew m t b := ⟨h.1, h.2⟩
theorem OwnMl.drew {B : Nat} {W : World} {v : Value} {l : List Ml} (h : OwnMl B W v l) : OwnMl B W.drew v l := h
theorem OwnTb.drew {B : Nat} {W : World} {v : Value} {l : List Tb} (h : OwnTb B W v l) : OwnTb B W.drew v l := h
theorem below_y {w W W' : World} (h : Below w.heap.size w W) (hb : Below W.heap.size W W') : Below w.heap.size w W' := h.trans (hb.mono h.size)
end Go.Proofs.YtihdgfihdecalaaGreatDoor
