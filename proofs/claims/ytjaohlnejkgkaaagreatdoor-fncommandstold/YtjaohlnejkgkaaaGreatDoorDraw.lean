/- The draws of the laws: what the cursor over the drawn bytes gives: some number, some bytes; the cursor's own block is the only one that is written. -/
import Derived.Test.YtjaohlnejkgkaaaGreatDoorProg
import Derived.Test.YtjaohlnejkgkaaaGreatDoorPlainA
import Derived.Test.YtjaohlnejkgkaaaGreatDoorBase
import Derived.WalkKit
import Derived.WalkSpells
import Derived.ProofKit
import Derived.Handy
import Derived.Laws.IdiomStrings
import Derived.Below
import Derived.WalkSmall
import Derived.Laws.AppendOwn
import Derived.Maps.AppendAt
import Derived.Maps.Range
import Derived.Deep.AppendLies
import Derived.Deep.QuietTactic
import Derived.BigQuiet
namespace Go.Proofs.YtjaohlnejkgkaaaGreatDoor
open Go.RowKit
open Plain
set_option linter.unusedVariables false

/-- Bytes that came in, below block B. -/
def Arg (B : Nat) (w : World) (a : Option Addr) (len : Nat) : Prop :=
  len ≤ 1048576 ∧ ∀ j, j < len → ∃ x u, a = some x ∧ x.block < B ∧ u < 256 ∧ w.cell? (x.add j) = some (.int .u8 ((u : Nat) : Int))

theorem add_block (x : Addr) (j : Nat) : (x.add j).block = x.block := by
  unfold Addr.add; split <;> rfl
theorem Arg.below {B : Nat} {w w' : World} {a : Option Addr} {len : Nat} (h : Arg B w a len) (hb : Below B w w') : Arg B w' a len :=
  ⟨h.1, fun j hj => by
    obtain ⟨x, u, h1, h2, h3, h4⟩ := h.2 j hj
    exact ⟨x, u, h1, h2, h3, by rw [hb.cell (by rw [add_block]; exact h2)]; exact h4⟩⟩

/-- The cursor in block c, over bytes below B. -/
def Cur (B : Nat) (w : World) (c : Nat) : Prop :=
  ∃ (a : Option Addr) (len cap i : Nat) (h : Int), B ≤ c ∧ i ≤ len ∧ Arg B w a len ∧ w.heap[c]? = some (.cells #[.slice a len cap, .int .i64 (i : Int), .int .i64 h] 49 (0, 0))

theorem Cur.lt {B c : Nat} {w : World} (h : Cur B w c) : B ≤ c ∧ c < w.heap.size := by
  obtain ⟨a, len, cap, i, hh, h1, h2, h3, h4⟩ := h
  refine ⟨h1, ?_⟩
  by_cases hc : c < w.heap.size
  · exact hc
  · rw [Array.getElem?_eq_none (by omega)] at h4; cases h4

theorem Cur.kept {B c : Nat} {w w' : World} {row : Option Nat} (h : Cur B w c) (hg : w.grownBy w' row) (hr : ∀ k, row = some k → c < k) : Cur B w' c := by
  have hlt := h.lt
  obtain ⟨a, len, cap, i, hh, h1, h2, h3, h4⟩ := h
  refine ⟨a, len, cap, i, hh, h1, h2, ⟨h3.1, fun j hj => ?_⟩, ?_⟩
  · obtain ⟨x, u, e1, e2, e3, e4⟩ := h3.2 j hj
    refine ⟨x, u, e1, e2, e3, ?_⟩
    rw [World.cell?_of_block (w := w) (hg.block _ (by rw [add_block]; omega) (fun e => by have := hr _ e.symm; rw [add_block] at this; omega))]
    exact e4
  · rw [hg.block c hlt.2 (fun e => by have := hr _ e.symm; omega)]; exact h4

theorem and255 (y : Int) : ∃ x : Nat, x < 256 ∧ bits .and .i64 y 255 = (x : Int) := by
  obtain ⟨b, hb⟩ : ∃ b : BitVec 64, b = BitVec.ofInt 64 y := ⟨_, rfl⟩
  have e : (b &&& BitVec.ofInt 64 255).toNat = b.toNat % 256 := by
    rw [BitVec.toNat_and, show (BitVec.ofInt 64 255).toNat = 2 ^ 8 - 1 from by decide, Nat.and_two_pow_sub_one_eq_mod]
  refine ⟨b.toNat % 256, by omega, ?_⟩
  show IntKind.i64.wrap (((BitVec.ofInt 64 y) &&& (BitVec.ofInt 64 255)).toNat : Int) = _
  rw [← hb, e, IntKind.wrap_i64]
  omega

theorem grown_set (w : World) (a : Addr) (u : Value) : w.grownBy (w.setCell a u) (some a.block) :=
  ⟨rfl, rfl, rfl, by simp, fun k _ hk => Below.heap_setCell w a u k (fun e => hk (by rw [e]))⟩
theorem grown_draws {w w' : World} {row : Option Nat} (h : w.grownBy w' row) (n : Nat) : w.grownBy (w'.drewN n) row := ⟨h.os, h.tape, h.output, h.size, h.block⟩
theorem grown_refl (w : World) (row : Option Nat) : w.grownBy w row := ⟨rfl, rfl, rfl, Nat.le_refl _, fun _ _ _ => rfl⟩

theorem Arg.grown {B c : Nat} {w w' : World} {a : Option Addr} {len : Nat} (h : Arg B w a len) (hg : w.grownBy w' (some c)) (h1 : B ≤ c) (h2 : c < w.heap.size) : Arg B w' a len :=
  ⟨h.1, fun j hj => by
    obtain ⟨x, u, e1, e2, e3, e4⟩ := h.2 j hj
    refine ⟨x, u, e1, e2, e3, ?_⟩
    rw [World.cell?_of_block (w := w) (hg.block _ (by rw [add_block]; omega) (fun e => by rw [add_block] at e; cases e; omega))]
    exact e4⟩

theorem set_h {w : World} {c : Nat} {s i h : Value} {t : TypeId} (v : Value) (H : w.heap[c]? = some (.cells #[s, i, h] t (0, 0))) : (w.setCell ⟨c, 2, none⟩ v).heap[c]? = some (.cells #[s, i, v] t (0, 0)) :=
  heap_setCell_same w c 2 #[s, i, h] t v H
theorem set_i {w : World} {c : Nat} {s i h : Value} {t : TypeId} (v : Value) (H : w.heap[c]? = some (.cells #[s, i, h] t (0, 0))) : (w.setCell ⟨c, 1, none⟩ v).heap[c]? = some (.cells #[s, v, h] t (0, 0)) :=
  heap_setCell_same w c 1 #[s, i, h] t v H

theorem fin_h {B c len cap i : Nat} {w w1 : World} {a : Option Addr} {h : Int} (h1 : B ≤ c) (h2 : i ≤ len) (hlc : c < w.heap.size) (h3 : Arg B w a len) (h4 : w.heap[c]? = some (.cells #[.slice a len cap, .int .i64 (i : Int), .int .i64 h] 49 (0, 0)))
    (h' : Int) (n m : Nat) (hw : w1 = ((w.setCell ⟨c, 2, none⟩ (.int .i64 h')).drewN n).drewN m) : Cur B w1 c ∧ w.grownBy w1 (some c) := by
  subst hw
  have hg : w.grownBy (((w.setCell ⟨c, 2, none⟩ (.int .i64 h')).drewN n).drewN m) (some c) := grown_draws (grown_draws (grown_set w ⟨c, 2, none⟩ _) n) m
  exact ⟨⟨a, len, cap, i, h', h1, h2, h3.grown hg h1 hlc, set_h _ h4⟩, hg⟩
theorem fin_i {B c len cap i : Nat} {w w1 : World} {a : Option Addr} {h : Int} (h1 : B ≤ c) (h2 : i < len) (hlc : c < w.heap.size) (h3 : Arg B w a len) (h4 : w.heap[c]? = some (.cells #[.slice a len cap, .int .i64 (i : Int), .int .i64 h] 49 (0, 0)))
    (h' : Int) (n : Nat) (hw : w1 = ((w.setCell ⟨c, 2, none⟩ (.int .i64 h')).drewN n).setCell ⟨c, 1, none⟩ (.int .i64 ((i : Int) + 1))) : Cur B w1 c ∧ w.grownBy w1 (some c) := by
  subst hw
  have hg : w.grownBy (((w.setCell ⟨c, 2, none⟩ (.int .i64 h')).drewN n).setCell ⟨c, 1, none⟩ (.int .i64 ((i : Int) + 1))) (some c) := (grown_draws (grown_set w ⟨c, 2, none⟩ _) n).trans (grown_set _ ⟨c, 1, none⟩ _)
  exact ⟨⟨a, len, cap, i + 1, h', h1, h2, h3.grown hg h1 hlc, set_i _ (set_h _ h4)⟩, hg⟩

set_option maxHeartbeats 1000000 in
set_option maxRecDepth 100000 in
theorem l01Byte_any (B c : Nat) (w : World) (hc : Cur B w c) :
    Calls Tryz.prog 25 #[.pointer (some ⟨c, 0, none⟩)] w fun e w' => ∃ x : Nat, x < 256 ∧ e = .returned (.int .i64 (x : Int)) ∧ Cur B w' c ∧ w.grownBy w' (some c) := by
  have hlc := hc.lt
  obtain ⟨a, len, cap, i, h, h1, h2, h3, h4⟩ := hc
  have c0 : w.cell? ⟨c, 0, none⟩ = some (.slice a len cap) := by simp [World.cell?, h4]
  have c1 : w.cell? ⟨c, 1, none⟩ = some (.int .i64 (i : Int)) := by simp [World.cell?, h4]
  have c2 : w.cell? ⟨c, 2, none⟩ = some (.int .i64 h) := by simp [World.cell?, h4]
  have f1 : w.frozen? ⟨c, 1, none⟩ = false := by simp [World.frozen?, h4]
  have f2 : w.frozen? ⟨c, 2, none⟩ = false := by simp [World.frozen?, h4]
  have hl := h3.1
  have H3 := hide h3
  have H4 := hide h4
  by_cases hlt : i < len
  · obtain ⟨x, u, rfl, e2, e3, e4⟩ := h3.2 i hlt
    have e5 : ∀ v, (w.setCell ⟨c, 2, none⟩ v).cell? (x.add i) = some (.int .u8 (u : Int)) := by
      intro v
      rw [World.cell?_of_block (w := w) (Below.heap_setCell w _ v _ (by rw [add_block]; show x.block ≠ c; omega))]
      exact e4
    clear h3 h4 e4
    go_enter Tryz.func25, Tryz.ntmps25
    go_wp2
    generalize wrap64 (wrap64 (h * 6364136223846793005) + 1442695040888963407) = h'
    go_quiet (fail)
    go_wp2
    generalize bits BinOp.and IntKind.i64 (bits BinOp.xor IntKind.i64 (h' / 8589934592) (h' / 35184372088832)) 255 = y
    go_quiet (fail)
    go_wp2
    go_quiet (fail)
    go_wp2
    generalize wrap64 (y + (u : Int)) = z
    obtain ⟨x0, hx0, hxe⟩ := and255 z
    go_ret
    exact ⟨x0, hx0, by rw [← hxe]; rfl, fin_i h1 hlt hlc.2 (unhide H3) (unhide H4) h' _ rfl⟩
  · have hlt' : decide ((i : Int) < (len : Int)) = false := by simp; omega
    clear h3 h4
    go_enter Tryz.func25, Tryz.ntmps25
    go_wp2
    generalize wrap64 (wrap64 (h * 6364136223846793005) + 1442695040888963407) = h'
    go_quiet (fail)
    go_wp2
    generalize bits BinOp.xor IntKind.i64 (h' / 8589934592) (h' / 35184372088832) = y
    go_quiet (fail)
    go_wp2
    obtain ⟨x0, hx0, hxe⟩ := and255 y
    go_ret
    exact ⟨x0, hx0, by rw [← hxe]; rfl, fin_h h1 h2 hlc.2 (unhide H3) (unhide H4) h' _ _ rfl⟩

/-- Some number below n. -/
theorem l01Below_small (B c n : Nat) (w : World) (hc : Cur B w c) (h0 : 0 < n) (h1 : n ≤ 256) :
    Calls Tryz.prog 13 #[.pointer (some ⟨c, 0, none⟩), .int .i64 n] w fun e w' => ∃ x : Nat, x < n ∧ e = .returned (.int .i64 (x : Int)) ∧ Cur B w' c ∧ w.grownBy w' (some c) := by
  have q := l01Byte_any B c w hc
  go_enter Tryz.func13, Tryz.ntmps13
  go_wp2_with (go_at_call 25; refine q.mono ?_; rintro e w1 ⟨x, hx, rfl, hc1, hg1⟩)
  go_ret
  refine ⟨x % n, Nat.mod_lt _ h0, ?_, by assumption, by assumption⟩
  show Ending.returned (Value.int .i64 _) = _
  congr 2
theorem mod_fin {Y : Int} {n : Nat} {p : Prop} (h0 : 0 < n) (hp : p) : ∃ x : Nat, x < n ∧ Ending.returned (Value.int .i64 (Y % (n : Int))) = .returned (.int .i64 (x : Int)) ∧ p := by
  have h1 : 0 ≤ Y % (n : Int) := Int.emod_nonneg _ (by omega)
  have h2 : Y % (n : Int) < n := Int.emod_lt_of_pos _ (by omega)
  exact ⟨(Y % (n : Int)).toNat, by omega, by rw [Int.toNat_of_nonneg h1], hp⟩
theorem l01Below_great (B c n : Nat) (w : World) (hc : Cur B w c) (h0 : 256 < n) (h1 : n ≤ 4294967296) :
    Calls Tryz.prog 13 #[.pointer (some ⟨c, 0, none⟩), .int .i64 n] w fun e w' => ∃ x : Nat, x < n ∧ e = .returned (.int .i64 (x : Int)) ∧ Cur B w' c ∧ w.grownBy w' (some c) := by
  have hq := hide (fun W hW => l01Byte_any B c W hW)
  have hg0 := grown_refl w (some c)
  go_enter Tryz.func13, Tryz.ntmps13
  go_wp2_with (go_at_call 25; refine (unhide hq _ (by assumption)).mono ?_; rintro e w1 ⟨x, hx, rfl, hc1, hg1⟩; have hg0 := hg0.trans hg1)
  go_ret
  exact mod_fin (by omega) ⟨by assumption, by assumption⟩
theorem l01Below_any (B c n : Nat) (w : World) (hc : Cur B w c) (h0 : 0 < n) (h1 : n ≤ 4294967296) :
    Calls Tryz.prog 13 #[.pointer (some ⟨c, 0, none⟩), .int .i64 n] w fun e w' => ∃ x : Nat, x < n ∧ e = .returned (.int .i64 (x : Int)) ∧ Cur B w' c ∧ w.grownBy w' (some c) := by
  by_cases h : n ≤ 256
  · exact l01Below_small B c n w hc h0 h
  · exact l01Below_great B c n w hc (by omega) h1

theorem own_apart {w : World} {base e size n c : Nat} {v : Value} {xs : List Value} (h : w.ownsRow base e size v n xs) (hc : c < base) : v.ownBlock = none ∨ v.ownBlock ≠ some c :=
  .inr fun e => by have := (h.lt c e).1; omega
theorem u8_nat (x : Nat) (h : x < 256) : bv [UInt8.ofNat x] = [Value.int .u8 (x : Int)] := by
  simp only [bv, List.map_cons, List.map_nil, UInt8.toNat_ofNat', Nat.reducePow, Nat.mod_eq_of_lt h]

set_option maxHeartbeats 1000000 in
set_option maxRecDepth 100000 in
/-- Some text of n bytes. -/
theorem l01Text_any (B c n : Nat) (w : World) (hc : Cur B w c) (hn : n ≤ 5000) :
    Calls Tryz.prog 27 #[.pointer (some ⟨c, 0, none⟩), .int .i64 n] w fun e w' => ∃ l : List UInt8, l.length = n ∧ e = .returned (.string ⟨l.toArray⟩) ∧ Cur B w' c ∧ w.grownBy w' (some c) := by
  obtain ⟨i0, hi, hz0, hz1, hz2⟩ := info_parts Tryz.infoU8
  have hlt := hc.lt
  have hq := hide (fun W hW => l01Byte_any B c W hW)
  go_enter Tryz.func27, Tryz.ntmps27
  go_wp2
  go_loopw [5, 6] (fun v i wr => ∃ (pre : List UInt8), pre.length ≤ n ∧ i = .int .i64 (pre.length : Int) ∧ wr.ownsRow w.heap.size 5 1 v pre.length (bv pre) ∧ Cur B wr c ∧ w.grownBy wr (some c))
    (fun _ i _ => n - (intOf i).toNat)
  case atStart => exact ⟨[], Nat.zero_le _, rfl, World.ownsRow_lit w #[] 0 (Nat.le_refl _) (Nat.zero_le _) rfl, hc.kept (World.grownBy_alloc w _ none) (fun k hk => by cases hk), World.grownBy_alloc w _ _⟩
  case round =>
    obtain ⟨pre, hk, rfl, hown, hcr, hgr⟩ := hrel
    have hsz : w.heap.size ≤ wr.heap.size := hgr.size
    obtain ⟨L, hL⟩ : ∃ L, L = pre.length := ⟨_, rfl⟩
    have hL' := hide hL
    rw [← hL] at hk hown ⊢
    clear hL
    by_cases hlt : L < n
    · have hne := own_apart hown (show c < w.heap.size from by omega)
      go_wp2_with (first
        | (go_at_call 25; refine (unhide hq _ (by assumption)).mono ?_; rintro e w1 ⟨x, hx, rfl, hc1, hg1⟩; have hown1 := hown.kept hg1 hne; have hsz1 : w.heap.size ≤ w1.heap.size := Nat.le_trans hsz hg1.size; have hgr1 := hgr.trans hg1)
        | (at_builtin; refine wpList_append_own _ rfl _ _ 22 rfl w.heap.size 5 i0 (.int .u8 0) 1 1 Tryz.underlying22 hi hz0 hz1 hz2 rfl (by decide) _ _ _ rfl (hown1.alloc _) ⟨w1.heap.size, 0, none⟩ 1 1 [.int .u8 (x : Int)] rfl rfl (news_one _) ?c2 ?c3 ?c4 ?c5 ?_))
      case c2 => intro u hu; simp at hu; subst hu; rfl
      case c3 => unfold maxLen; omega
      case c4 => omega
      case c5 => simp; omega
      intro v' w2 hown' hgrow _
      have hgr2 : w.grownBy w2 (some c) := (hgr1.trans (World.grownBy_alloc _ _ _)).andThen hgrow (fun j hj => .inl (hown1.lt j hj).1)
      have hc2 : Cur B w2 c := (hc1.kept (World.grownBy_alloc _ _ none) (fun k hk => by cases hk)).kept hgrow (fun k hk => by have := (hown1.lt k hk).1; omega)
      have ho2 : w2.ownsRow w.heap.size 5 1 v' (pre ++ [UInt8.ofNat x]).length (bv (pre ++ [UInt8.ofNat x])) := by
        rw [bv_append, List.length_append, u8_nat x hx, ← unhide hL']; exact hown'
      clear hown hown1 hown' hgrow hgr hgr1 hcr hc1 hne
      go_wp2
      go_roundw
      case rel => exact ⟨pre ++ [UInt8.ofNat x], by simp [← unhide hL']; omega, by simp [← unhide hL'], ho2, hc2, hgr2⟩
      case measure => simp [intOf]; omega
    · have hcv := own_str (unhide hL') hown
      go_wp2
      go_ret
      exact ⟨pre, by rw [← unhide hL']; omega, rfl, hcr, hgr⟩
end Go.Proofs.YtjaohlnejkgkaaaGreatDoor
