/- Several texts in one. -/
import Derived.Test.YtlngjflhbkannaaGreatProg
import Derived.Test.YtlngjflhbkannaaGreatPlainA
import Derived.Test.YtlngjflhbkannaaGreatBmA
import Derived.WalkKit
import Derived.WalkSpells
import Derived.ProofKit
import Derived.Handy
import Derived.Laws.IdiomStrings
import Derived.Below
import Derived.WalkSmall
import Derived.Laws.AppendOwn
import Derived.Maps.AppendAt
import Derived.Maps.Range
import Derived.Deep.AppendLies
import Derived.Deep.QuietTactic
import Derived.BigQuiet
import Derived.Laws.OwnMore
import Derived.WalkMore
import Derived.Test.YtlngjflhbkannaaGreatRowsA
namespace Go.Proofs.YtlngjflhbkannaaGreat
open Go.RowKit
open Plain
set_option linter.unusedVariables false

/-- Bytes that came in, below block B. -/
def Arg (B : Nat) (w : World) (a : Option Addr) (len : Nat) : Prop :=
 len ≤ 1048576 ∧ ∀ j, j < len → ∃ x u, a = some x ∧ x.block < B ∧ u < 256 ∧ w.cell? (x.add j) = some (.int .u8 ((u : Nat) : Int))

theorem add_block (x : Addr) (j : Nat) : (x.add j).block = x.block := by
 unfold Addr.add; split <;> rfl
theorem Arg.below {B : Nat} {w w' : World} {a : Option Addr} {len : Nat} (h : Arg B w a len) (hb : Below B w w') : Arg B w' a len :=
 ⟨h.1, fun j hj => by
  obtain ⟨x, u, h1, h2, h3, h4⟩ := h.2 j hj
  exact ⟨x, u, h1, h2, h3, by rw [hb.cell (by rw [add_block]; exact h2)]; exact h4⟩⟩

/-- The cursor in block c, over bytes below B. -/
def Cur (B : Nat) (w : World) (c : Nat) : Prop :=
 ∃ (a : Option Addr) (len cap i : Nat) (h : Int), B ≤ c ∧ i ≤ len ∧ Arg B w a len ∧ w.heap[c]? = some (.cells #[.slice a len cap, .int .i64 (i : Int), .int .i64 h] 169 (0, 0))

theorem Cur.lt {B c : Nat} {w : World} (h : Cur B w c) : B ≤ c ∧ c < w.heap.size := by
 obtain ⟨a, len, cap, i, hh, h1, h2, h3, h4⟩ := h
 refine ⟨h1, ?_⟩
 by_cases hc : c < w.heap.size
 ·exact hc
 ·rw [Array.getElem?_eq_none (by omega)] at h4; cases h4

theorem Cur.kept {B c : Nat} {w w' : World} {row : Option Nat} (h : Cur B w c) (hg : w.grownBy w' row) (hr : ∀ k, row = some k → c < k) : Cur B w' c := by
 have hlt := h.lt
 obtain ⟨a, len, cap, i, hh, h1, h2, h3, h4⟩ := h
 refine ⟨a, len, cap, i, hh, h1, h2, ⟨h3.1, fun j hj => ?_⟩, ?_⟩
 ·obtain ⟨x, u, e1, e2, e3, e4⟩ := h3.2 j hj
  refine ⟨x, u, e1, e2, e3, ?_⟩
  rw [World.cell?_of_block (w := w) (hg.block _ (by rw [add_block]; omega) (fun e => by have := hr _ e.symm; rw [add_block] at this; omega))]
  exact e4
 ·rw [hg.block c hlt.2 (fun e => by have := hr _ e.symm; omega)]; exact h4

theorem and255 (y : Int) : ∃ x : Nat, x < 256 ∧ bits .and .i64 y 255 = (x : Int) := by
 obtain ⟨b, hb⟩ : ∃ b : BitVec 64, b = BitVec.ofInt 64 y := ⟨_, rfl⟩
 have e : (b &&& BitVec.ofInt 64 255).toNat = b.toNat % 256 := by
  rw [BitVec.toNat_and, show (BitVec.ofInt 64 255).toNat = 2 ^ 8 - 1 from by decide, Nat.and_two_pow_sub_one_eq_mod]
 refine ⟨b.toNat % 256, by omega, ?_⟩
 show IntKind.i64.wrap (((BitVec.ofInt 64 y) &&& (BitVec.ofInt 64 255)).toNat : Int) = _
 rw [← hb, e, IntKind.wrap_i64]
 omega

theorem grown_set (w : World) (a : Addr) (u : Value) : w.grownBy (w.setCell a u) (some a.block) :=
 ⟨rfl, rfl, rfl, by simp, fun k _ hk => Below.heap_setCell w a u k (fun e => hk (by rw [e]))⟩
theorem grown_draws {w w' : World} {row : Option Nat} (h : w.grownBy w' row) (n : Nat) : w.grownBy (w'.drewN n) row := ⟨h.os, h.tape, h.output, h.size, h.block⟩
theorem grown_refl (w : World) (row : Option Nat) : w.grownBy w row := ⟨rfl, rfl, rfl, Nat.le_refl _, fun _ _ _ => rfl⟩

theorem Arg.grown {B c : Nat} {w w' : World} {a : Option Addr} {len : Nat} (h : Arg B w a len) (hg : w.grownBy w' (some c)) (h1 : B ≤ c) (h2 : c < w.heap.size) : Arg B w' a len :=
 ⟨h.1, fun j hj => by
  obtain ⟨x, u, e1, e2, e3, e4⟩ := h.2 j hj
  refine ⟨x, u, e1, e2, e3, ?_⟩
  rw [World.cell?_of_block (w := w) (hg.block _ (by rw [add_block]; omega) (fun e => by rw [add_block] at e; cases e; omega))]
  exact e4⟩

theorem set_h {w : World} {c : Nat} {s i h : Value} {t : TypeId} (v : Value) (H : w.heap[c]? = some (.cells #[s, i, h] t (0, 0))) : (w.setCell ⟨c, 2, none⟩ v).heap[c]? = some (.cells #[s, i, v] t (0, 0)) :=
 heap_setCell_same w c 2 #[s, i, h] t v H
theorem set_i {w : World} {c : Nat} {s i h : Value} {t : TypeId} (v : Value) (H : w.heap[c]? = some (.cells #[s, i, h] t (0, 0))) : (w.setCell ⟨c, 1, none⟩ v).heap[c]? = some (.cells #[s, v, h] t (0, 0)) :=
 heap_setCell_same w c 1 #[s, i, h] t v H

theorem fin_h {B c len cap i : Nat} {w w1 : World} {a : Option Addr} {h : Int} (h1 : B ≤ c) (h2 : i ≤ len) (hlc : c < w.heap.size) (h3 : Arg B w a len) (h4 : w.heap[c]? = some (.cells #[.slice a len cap, .int .i64 (i : Int), .int .i64 h] 169 (0, 0)))
  (h' : Int) (n m : Nat) (hw : w1 = ((w.setCell ⟨c, 2, none⟩ (.int .i64 h')).drewN n).drewN m) : Cur B w1 c ∧ w.grownBy w1 (some c) := by
 subst hw
 have hg : w.grownBy (((w.setCell ⟨c, 2, none⟩ (.int .i64 h')).drewN n).drewN m) (some c) := grown_draws (grown_draws (grown_set w ⟨c, 2, none⟩ _) n) m
 exact ⟨⟨a, len, cap, i, h', h1, h2, h3.grown hg h1 hlc, set_h _ h4⟩, hg⟩
theorem fin_i {B c len cap i : Nat} {w w1 : World} {a : Option Addr} {h : Int} (h1 : B ≤ c) (h2 : i < len) (hlc : c < w.heap.size) (h3 : Arg B w a len) (h4 : w.heap[c]? = some (.cells #[.slice a len cap, .int .i64 (i : Int), .int .i64 h] 169 (0, 0)))
  (h' : Int) (n : Nat) (hw : w1 = ((w.setCell ⟨c, 2, none⟩ (.int .i64 h')).drewN n).setCell ⟨c, 1, none⟩ (.int .i64 ((i : Int) + 1))) : Cur B w1 c ∧ w.grownBy w1 (some c) := by
 subst hw
 have hg : w.grownBy (((w.setCell ⟨c, 2, none⟩ (.int .i64 h')).drewN n).setCell ⟨c, 1, none⟩ (.int .i64 ((i : Int) + 1))) (some c) := (grown_draws (grown_set w ⟨c, 2, none⟩ _) n).trans (grown_set _ ⟨c, 1, none⟩ _)
 exact ⟨⟨a, len, cap, i + 1, h', h1, h2, h3.grown hg h1 hlc, set_i _ (set_h _ h4)⟩, hg⟩

set_option maxHeartbeats 1000000 in
set_option maxRecDepth 100000 in
theorem l01Byte_any (B c : Nat) (w : World) (hc : Cur B w c) :
  Calls Tryz.prog 132 #[.pointer (some ⟨c, 0, none⟩)] w fun e w' => ∃ x : Nat, x < 256 ∧ e = .returned (.int .i64 (x : Int)) ∧ Cur B w' c ∧ w.grownBy w' (some c) := by
 have hlc := hc.lt
 obtain ⟨a, len, cap, i, h, h1, h2, h3, h4⟩ := hc
 have c0 : w.cell? ⟨c, 0, none⟩ = some (.slice a len cap) := by simp [World.cell?, h4]
 have c1 : w.cell? ⟨c, 1, none⟩ = some (.int .i64 (i : Int)) := by simp [World.cell?, h4]
 have c2 : w.cell? ⟨c, 2, none⟩ = some (.int .i64 h) := by simp [World.cell?, h4]
 have f1 : w.frozen? ⟨c, 1, none⟩ = false := by simp [World.frozen?, h4]
 have f2 : w.frozen? ⟨c, 2, none⟩ = false := by simp [World.frozen?, h4]
 have hl := h3.1; have H3 := hide h3; have H4 := hide h4
 by_cases hlt : i < len
 ·obtain ⟨x, u, rfl, e2, e3, e4⟩ := h3.2 i hlt
  have e5 : ∀ v, (w.setCell ⟨c, 2, none⟩ v).cell? (x.add i) = some (.int .u8 (u : Int)) := by
   intro v
   rw [World.cell?_of_block (w := w) (Below.heap_setCell w _ v _ (by rw [add_block]; show x.block ≠ c; omega))]
   exact e4
  clear h3 h4 e4
  go_enter Tryz.func132, Tryz.ntmps132
  go_wp2
  generalize wrap64 (wrap64 (h * 6364136223846793005) + 1442695040888963407) = h'
  go_quiet (fail)
  go_wp2
  generalize bits BinOp.and IntKind.i64 (bits BinOp.xor IntKind.i64 (h' / 8589934592) (h' / 35184372088832)) 255 = y
  go_quiet (fail)
  go_wp2
  go_quiet (fail)
  go_wp2
  generalize wrap64 (y + (u : Int)) = z
  obtain ⟨x0, hx0, hxe⟩ := and255 z
  go_ret
  exact ⟨x0, hx0, by rw [← hxe]; rfl, fin_i h1 hlt hlc.2 (uh H3) (uh H4) h' _ rfl⟩
 ·have hlt' : decide ((i : Int) < (len : Int)) = false := by simp; omega
  clear h3 h4
  go_enter Tryz.func132, Tryz.ntmps132
  go_wp2
  generalize wrap64 (wrap64 (h * 6364136223846793005) + 1442695040888963407) = h'
  go_quiet (fail)
  go_wp2
  generalize bits BinOp.xor IntKind.i64 (h' / 8589934592) (h' / 35184372088832) = y
  go_quiet (fail)
  go_wp2
  obtain ⟨x0, hx0, hxe⟩ := and255 y
  go_ret
  exact ⟨x0, hx0, by rw [← hxe]; rfl, fin_h h1 h2 hlc.2 (uh H3) (uh H4) h' _ _ rfl⟩

/-- Some number below n. -/
theorem l01Below_small (B c n : Nat) (w : World) (hc : Cur B w c) (h0 : 0 < n) (h1 : n ≤ 256) :
  Calls Tryz.prog 80 #[.pointer (some ⟨c, 0, none⟩), .int .i64 n] w fun e w' => ∃ x : Nat, x < n ∧ e = .returned (.int .i64 (x : Int)) ∧ Cur B w' c ∧ w.grownBy w' (some c) := by
 have q := l01Byte_any B c w hc
 go_enter Tryz.func80, Tryz.ntmps80
 go_wp2_with (go_at_call 132; refine q.mono ?_; rintro e w1 ⟨x, hx, rfl, hc1, hg1⟩)
 go_ret
 refine ⟨x % n, Nat.mod_lt _ h0, ?_, by assumption, by assumption⟩
 show Ending.returned (Value.int .i64 _) = _
 congr 2
theorem mod_fin {Y : Int} {n : Nat} {p : Prop} (h0 : 0 < n) (hp : p) : ∃ x : Nat, x < n ∧ Ending.returned (Value.int .i64 (Y % (n : Int))) = .returned (.int .i64 (x : Int)) ∧ p := by
 have h1 : 0 ≤ Y % (n : Int) := Int.emod_nonneg _ (by omega)
 have h2 : Y % (n : Int) < n := Int.emod_lt_of_pos _ (by omega)
 exact ⟨(Y % (n : Int)).toNat, by omega, by rw [Int.toNat_of_nonneg h1], hp⟩
theorem l01Below_great (B c n : Nat) (w : World) (hc : Cur B w c) (h0 : 256 < n) (h1 : n ≤ 4294967296) :
  Calls Tryz.prog 80 #[.pointer (some ⟨c, 0, none⟩), .int .i64 n] w fun e w' => ∃ x : Nat, x < n ∧ e = .returned (.int .i64 (x : Int)) ∧ Cur B w' c ∧ w.grownBy w' (some c) := by
 have hq := hide (fun W hW => l01Byte_any B c W hW)
 have hg0 := grown_refl w (some c)
 go_enter Tryz.func80, Tryz.ntmps80
 go_wp2_with (go_at_call 132; refine (uh hq _ (by assumption)).mono ?_; rintro e w1 ⟨x, hx, rfl, hc1, hg1⟩; have hg0 := hg0.trans hg1)
 go_ret
 exact mod_fin (by omega) ⟨by assumption, by assumption⟩
theorem l01Below_any (B c n : Nat) (w : World) (hc : Cur B w c) (h0 : 0 < n) (h1 : n ≤ 4294967296) :
  Calls Tryz.prog 80 #[.pointer (some ⟨c, 0, none⟩), .int .i64 n] w fun e w' => ∃ x : Nat, x < n ∧ e = .returned (.int .i64 (x : Int)) ∧ Cur B w' c ∧ w.grownBy w' (some c) := by
 by_cases h : n ≤ 256
 ·exact l01Below_small B c n w hc h0 h
 ·exact l01Below_great B c n w hc (by omega) h1

theorem own_apart {w : World} {base e size n c : Nat} {v : Value} {xs : List Value} (h : w.ownsRow base e size v n xs) (hc : c < base) : v.ownBlock = none ∨ v.ownBlock ≠ some c :=
 .inr fun e => by have := (h.lt c e).1; omega
end Go.Proofs.YtlngjflhbkannaaGreat

namespace Go.Proofs.YtlngjflhbkannaaGreat
open Go.RowKit
open Plain
set_option linter.unusedVariables false

theorem Cur.new {B len cap : Nat} {w : World} {a : Option Addr} (ha : Arg B w a len) (hB : B ≤ w.heap.size) (h : Int) : Cur B (w.alloc (.cells #[.slice a len cap, .int .i64 0, .int .i64 h] 169)) w.heap.size :=
 ⟨a, len, cap, 0, h, hB, Nat.zero_le _, ha.below ((Below.refl B w).alloc hB _), heap_alloc_new w _⟩

set_option maxHeartbeats 1000000 in
set_option maxRecDepth 100000 in
theorem l01New_any (B len cap : Nat) (a : Option Addr) (w : World) (ha : Arg B w a len) (hB : B ≤ w.heap.size) :
  Calls Tryz.prog 60 #[.slice a len cap] w fun e w' => e = .returned (.pointer (some ⟨w.heap.size, 0, none⟩)) ∧ Cur B w' w.heap.size ∧ w.grownBy w' none := by
 have HA := hide ha; have hl := ha.1; clear ha
 go_enter Tryz.func60, Tryz.ntmps60
 go_wp2
 go_loopw [3, 4] (fun h i wr => ∃ (k : Nat) (y : Int), k ≤ len ∧ i = .int .i64 (k : Int) ∧ h = .int .i64 y ∧ w = wr)
  (fun _ i _ => len - (intOf i).toNat)
 case atStart => exact ⟨0, _, Nat.zero_le _, rfl, rfl, rfl⟩
 case round =>
  obtain ⟨k, y, hk, rfl, rfl, rfl⟩ := hrel
  by_cases hlt : k < len
  ·have d1 : decide ((k : Int) < (len : Int)) = true := by simp; omega
   by_cases h4 : k < 4000
   ·have d2 : decide ((k : Int) < 4000) = true := by simp; omega
    obtain ⟨x, u, rfl, e2, e3, e4⟩ := (uh HA).2 k hlt
    go_wp2
    go_roundw
    case rel => exact ⟨k + 1, _, by omega, by go_num, rfl, trivial⟩
    case measure => simp [intOf]; omega
   ·have d2 : decide ((k : Int) < 4000) = false := by simp; omega
    go_wp2
    go_ret
    exact ⟨rfl, Cur.new (uh HA) hB y, World.grownBy_alloc w _ none⟩
  ·have d1 : decide ((k : Int) < (len : Int)) = false := by simp; omega
   go_wp2
   go_ret
   exact ⟨rfl, Cur.new (uh HA) hB y, World.grownBy_alloc w _ none⟩

end Go.Proofs.YtlngjflhbkannaaGreat

namespace Go.Proofs.YtlngjflhbkannaaGreat.Plain
open Go.RowKit

/-- A byte is a figure. -/
def isF (x : Nat) : Bool := decide (48 ≤ x ∧ x ≤ 57 ∨ 97 ≤ x ∧ x ≤ 102)
def ab (l : List UInt8) (k : Nat) : Nat := (l.getD k 0).toNat
/-- All below k are figures. -/
def Figs (l : List UInt8) (k : Nat) : Prop := ∀ i, i < k → isF (ab l i) = true
theorem Figs.zero (l : List UInt8) : Figs l 0 := fun i h => by omega
theorem Figs.succ {l : List UInt8} {k : Nat} (h : Figs l k) (hk : isF (ab l k) = true) : Figs l (k + 1) := fun i hi => by
 by_cases e : i = k
 ·rw [e]; exact hk
 ·exact h i (by omega)
theorem made_zero (n : Nat) : (madeCells (Value.int .u8 0).cells (n * 1)).toList = bv (List.replicate n 0) := by
 rw [Nat.mul_one]
 rw [show (Value.int .u8 0).cells = #[Value.int .u8 0] from rfl, toList_madeCells_one]
 simp [bv]
theorem made_zero' (n : Nat) : (madeCells #[Value.int .u8 0] n).toList = bv (List.replicate n 0) := by
 have h := made_zero n
 rw [Nat.mul_one] at h
 exact h
end Go.Proofs.YtlngjflhbkannaaGreat.Plain

namespace Go.Proofs.YtlngjflhbkannaaGreat
open Go.RowKit
open Plain
set_option linter.unusedVariables false

theorem l01Once_any (B c n : Nat) (w : World) (hc : Cur B w c) (h0 : 0 < n) (h1 : n ≤ 4294967296) :
  Calls Tryz.prog 70 #[.pointer (some ⟨c, 0, none⟩), .int .i64 n] w fun e w' => ∃ b : Bool, e = .returned (.bool b) ∧ Cur B w' c ∧ w.grownBy w' (some c) := by
 have q := hide (l01Below_any B c n w hc h0 h1)
 go_enter Tryz.func70, Tryz.ntmps70
 go_wp2_with (go_at_call 80; refine (uh q).mono ?_; rintro e w1 ⟨x, hx, rfl, hc1, hg1⟩)
 go_ret
 exact ⟨_, rfl, hc1, hg1⟩

/-- One of a list of numbers. -/
theorem l01PickInt_any (B c g m cp : Nat) (w : World) (hc : Cur B w c) (hm : 0 < m) (hm2 : m ≤ 1000) (hne : g ≠ c) (hg : g < w.heap.size)
  (hl : ∀ j, j < m → ∃ z : Int, -9223372036854775808 ≤ z ∧ z ≤ 9223372036854775807 ∧ w.cell? ⟨g, j, none⟩ = some (.int .i64 z)) :
  Calls Tryz.prog 79 #[.pointer (some ⟨c, 0, none⟩), .slice (some ⟨g, 0, none⟩) m cp] w fun e w' => ∃ z : Int, -9223372036854775808 ≤ z ∧ z ≤ 9223372036854775807 ∧ e = .returned (.int .i64 z) ∧ Cur B w' c ∧ w.grownBy w' (some c) := by
 have q := hide (l01Below_any B c m w hc hm (by omega))
 have HL := hide hl; clear hl hc
 go_enter Tryz.func79, Tryz.ntmps79
 go_wp2_with (go_at_call 80; refine (uh q).mono ?_; rintro e w1 ⟨x, hx, rfl, hc1, hg1⟩; obtain ⟨z, hz1, hz2, hz3⟩ := uh HL x hx; have hz4 : w1.cell? ⟨g, x, none⟩ = some (.int .i64 z) := (World.cell?_of_block (w := w) (a := ⟨g, x, none⟩) (hg1.block g hg (fun e => hne (by cases e; rfl)))).trans hz3)
 go_ret
 exact ⟨z, hz1, hz2, rfl, hc1, hg1⟩

theorem bv_set (l : List UInt8) (j x : Nat) (hx : x < 256) : bv (l.set j (UInt8.ofNat x)) = (bv l).set j (.int .u8 (x : Int)) := by
 unfold bv
 rw [List.map_set]
 congr 2
 simp only [UInt8.toNat_ofNat', Nat.reducePow, Nat.mod_eq_of_lt hx]

set_option maxHeartbeats 1000000 in
set_option maxRecDepth 100000 in
/-- Some text of n bytes. -/
theorem l01Long_any (n x : Nat) (w : World) (hn : n ≤ 1000000) (hx : x < 256) :
  Calls Tryz.prog 123 #[.int .i64 n, .int .u8 x] w fun e w' => ∃ l : List UInt8, l.length = n ∧ e = .returned (.string ⟨l.toArray⟩) ∧ Below w.heap.size w w' := by
 obtain ⟨i0, hi, hz0, hz1, hz2⟩ := info_parts Tryz.infoU8
 go_enter Tryz.func123, Tryz.ntmps123
 go_wp2_with (at_make; refine wpList_make_full _ rfl _ _ 45 rfl w.heap.size 5 i0 (.int .u8 0) 1 Tryz.underlying45 hi hz0 hz1 _ _ _ _ n rfl rfl (by omega) (by omega) (by rw [hz2]; omega) (by unfold maxLen; omega) (Nat.le_refl _) ?_)
 intro w0 hown0 hgrow0
 rw [made_zero'] at hown0
 have hb0 : Below w.heap.size w w0 := (Below.refl _ _).grown hgrow0 (Nat.le_refl _) (fun j hj => by cases hj)
 clear hgrow0
 go_wp2
 go_loopw [6] (fun i wr => ∃ (k : Nat) (l : List UInt8), k ≤ n ∧ l.length = n ∧ i = .int .i64 (k : Int) ∧ wr.ownsRow w.heap.size 5 1 (.slice (some ⟨w.heap.size, 0, none⟩) n n) n (bv l) ∧ Below w.heap.size w wr)
  (fun i _ => n - (intOf i).toNat)
 case atStart => exact ⟨0, _, Nat.zero_le _, List.length_replicate .., rfl, hown0, hb0⟩
 case round =>
  obtain ⟨k, l, hk, hll, rfl, hown, hbel⟩ := hrel
  have hll' := hide hll
  clear hll hown0
  by_cases hlt : k < n
  ·have hc : ∃ u, wr.cell? ⟨w.heap.size, k, none⟩ = some u := by
    rw [hown.cellAt k (by omega)]
    exact ⟨_, List.getElem?_eq_getElem (by simp [bv, uh hll']; omega)⟩
   obtain ⟨u, hcell⟩ := hc
   have hfz : wr.frozen? ⟨w.heap.size, k, none⟩ = false := hown.frozenAt _
   go_wp2
   go_roundw
   case rel => exact ⟨k + 1, l.set k (UInt8.ofNat x), by omega, by rw [List.length_set]; exact uh hll', by go_num, by rw [bv_set l k x hx]; exact (hown.stored k _).1, hbel.setCell (p := ⟨w.heap.size, k, none⟩) (Nat.le_refl _) _⟩
   case measure => simp [intOf]; omega
  ·have hcv := own_str (uh hll').symm hown
   go_wp2
   go_ret
   exact ⟨l, uh hll', rfl, hbel⟩
end Go.Proofs.YtlngjflhbkannaaGreat

namespace Go.Proofs.YtlngjflhbkannaaGreat
open Go.RowKit
open Plain
set_option linter.unusedVariables false

/-- Numbers as values. -/
def iv (l : List Nat) : List Value := l.map fun (x : Nat) => Value.int .i64 (x : Int)
end Go.Proofs.YtlngjflhbkannaaGreat

namespace Go.Proofs.YtlngjflhbkannaaGreat
open Go.RowKit
open Plain
set_option linter.unusedVariables false
set_option linter.unusedSimpArgs false

namespace Plain
end Plain
theorem bigF_any (len cap : Nat) (a : Option Addr) (w : World) (hl : len ≤ 9223372036854775807) :
  Calls Tryz.prog 16 #[.slice a len cap] w fun e w' => e = .returned (.bool (decide ((1048576 : Int) < len))) ∧ w' = w := by
 go_enter Tryz.func16, Tryz.ntmps16
 go_wp2
 go_ret
 exact ⟨rfl, rfl⟩
/-- One of a list of texts, laid just now. -/
theorem flag_str (zs : List ByteArray) (B c : Nat) (w : World) (hc : Cur B w c) (h0 : 0 < zs.length) (h1 : zs.length ≤ 1000) :
  Calls Tryz.prog 90 #[.pointer (some ⟨c, 0, none⟩), .slice (some ⟨w.heap.size, 0, none⟩) zs.length zs.length] (w.alloc (.cells (zs.map Value.string).toArray 9)) fun e w' => ∃ z : ByteArray, z ∈ zs ∧ e = .returned (.string z) ∧ Cur B w' c ∧ w.grownBy w' (some c) := by
 have hcl := hc.lt.2
 have hc0 : Cur B (w.alloc (.cells (zs.map Value.string).toArray 9)) c := hc.kept (World.grownBy_alloc _ _ none) (fun k hk => by cases hk)
 have hg0 : w.grownBy (w.alloc (.cells (zs.map Value.string).toArray 9)) (some c) := World.grownBy_alloc _ _ _
 have q := hide (l01Below_any B c zs.length _ hc0 h0 (by omega))
 have HL : Hid (∀ x : Nat, x < zs.length → ∃ z, z ∈ zs ∧ (w.alloc (.cells (zs.map Value.string).toArray 9)).cell? ⟨w.heap.size, x, none⟩ = some (.string z)) := fun x hx => by
  refine ⟨zs[x], List.getElem_mem _, ?_⟩
  have := (World.ownsRow_lit (size := 1) (e := 9) w (zs.map Value.string).toArray zs.length (Nat.le_refl _) (by unfold maxLen; omega) (by simp)).cellAt x (by omega)
  rw [this]
  simp [hx]
 have hne : w.heap.size ≠ c := by omega
 have hgl : w.heap.size < (w.alloc (.cells (zs.map Value.string).toArray 9)).heap.size := by simp
 generalize w.alloc (.cells (zs.map Value.string).toArray 9) = W at *
 have HG := hide hg0; clear hc hc0 hg0
 go_enter Tryz.func90, Tryz.ntmps90
 go_wp2_with fail
 refine (uh q).mono ?_
 rintro e w1 ⟨x, hx, rfl, hc1, hg1⟩
 obtain ⟨z, hz, hz3⟩ := uh HL x hx
 have hz4 : w1.cell? ⟨w.heap.size, x, none⟩ = some (.string z) := (World.cell?_of_block (w := W) (a := ⟨w.heap.size, x, none⟩) (hg1.block _ hgl (fun e => hne (by cases e; rfl)))).trans hz3
 have HH := hide (g_join (uh HG) hg1); have HC := hide hc1; clear hz3 hc1 hg1 HG HL
 go_wp2
 go_ret
 exact ⟨z, hz, rfl, uh HC, uh HH⟩

/-- The cursor under way. -/
structure FC (B c : Nat) (w W : World) : Prop where
 cur : Cur B W c
 below : Below w.heap.size w W
 lt : w.heap.size ≤ c
theorem FC.call {B c : Nat} {w W W' : World} (h : FC B c w W) (hg : W.grownBy W' (some c)) (hc : Cur B W' c) : FC B c w W' :=
 ⟨hc, h.below.grown hg h.below.size (fun k hk => by cases hk; exact h.lt), h.lt⟩

set_option maxHeartbeats 1000000 in
set_option maxRecDepth 100000 in
theorem placeF_any (B c n : Nat) (w : World) (hc : Cur B w c) (hn0 : 0 < n) (hn : n ≤ 1000) :
  Calls Tryz.prog 61 #[.pointer (some ⟨c, 0, none⟩), .int .i64 n] w fun e w' => ∃ z : Int, -9223372036854775808 ≤ z ∧ z ≤ 9223372036854775807 ∧ e = .returned (.int .i64 z) ∧ Cur B w' c ∧ w.grownBy w' (some c) := by
 have hlt := hc.lt; have HC := hide hc; clear hc
 go_enter Tryz.func61, Tryz.ntmps61
 go_wp2_with fail
 refine (l01Once_any B c 15 _ (uh HC) (by omega) (by omega)).mono ?_
 rintro e w1 ⟨b, rfl, hc1, hg1⟩
 have hs1 := hg1.size; have HC1 := hide hc1; clear hc1
 have hb : b = true ∨ b = false := by cases b <;> simp
 rcases hb with rfl | rfl
 ·go_wp2_with fail
  refine (l01PickInt_any B c w1.heap.size 5 5 _ ((uh HC1).kept (World.grownBy_alloc _ _ none) (fun k hk => by cases hk)) (by omega) (by omega) (by omega) (by simp) (fun j hj => ?_)).mono ?_
  ·match j, hj with
   | 0, _ => exact ⟨_, by omega, by omega, cell_of_row _ _ 0 _ _ (0, 0) (heap_alloc_new _ _)⟩
   | 1, _ => exact ⟨_, by omega, by omega, cell_of_row _ _ 1 _ _ (0, 0) (heap_alloc_new _ _)⟩
   | 2, _ => exact ⟨_, by omega, by omega, cell_of_row _ _ 2 _ _ (0, 0) (heap_alloc_new _ _)⟩
   | 3, _ => exact ⟨_, by omega, by omega, cell_of_row _ _ 3 _ _ (0, 0) (heap_alloc_new _ _)⟩
   | 4, _ => exact ⟨_, by omega, by omega, cell_of_row _ _ 4 _ _ (0, 0) (heap_alloc_new _ _)⟩
  ·rintro e w2 ⟨z, hz1, hz2, rfl, hc2, hg2⟩
   go_wp2
   go_ret
   exact ⟨z, hz1, hz2, rfl, hc2, hg1.trans ((World.grownBy_alloc _ _ _).trans hg2)⟩
 ·go_wp2_with fail
  refine (l01Below_any B c n _ (uh HC1) hn0 (by omega)).mono ?_
  rintro e w2 ⟨x, hx, rfl, hc2, hg2⟩
  go_wp2
  go_ret
  exact ⟨_, by omega, by omega, rfl, hc2, hg1.trans hg2⟩

end Go.Proofs.YtlngjflhbkannaaGreat
