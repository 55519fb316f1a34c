/- The draws of FnActs: a disk, acts, how far, what is left. -/
import Derived.Test.YtnlcknklghalkaaProg
import Derived.Test.YtnlcknklghalkaaPlain
import Derived.Test.YtnlcknklghalkaaBase
import Derived.WalkKit
import Derived.WalkSpells
import Derived.ProofKit
import Derived.Handy
import Derived.Laws.IdiomStrings
import Derived.Below
import Derived.WalkSmall
import Derived.Laws.AppendOwn
import Derived.Maps.AppendAt
import Derived.Maps.Range
import Derived.Deep.AppendLies
import Derived.Deep.QuietTactic
import Derived.BigQuiet
import Derived.Test.YtnlcknklghalkaaPut
import Derived.Test.YtnlcknklghalkaaLedger2
import Derived.Test.YtnlcknklghalkaaHexPlain
import Derived.Laws.OwnMore
import Derived.WalkMore
import Derived.Test.YtnlcknklghalkaaInts
import Derived.Test.YtnlcknklghalkaaActS
import Derived.Deep.Cut
import Derived.Test.YtnlcknklghalkaaDoActsS
import Derived.Test.YtnlcknklghalkaaDecPlain
import Derived.Test.YtnlcknklghalkaaShelf
/- The draws of the laws: what the cursor over the drawn bytes gives: some number, some bytes; the cursor's own block is the only one that is written. -/
namespace Go.Proofs.Ytnlcknklghalkaa
open Go.RowKit
open Plain
set_option linter.unusedVariables false

/-- Bytes that came in, below block B. -/
def Arg (B : Nat) (w : World) (a : Option Addr) (len : Nat) : Prop :=
  len ≤ 1048576 ∧ ∀ j, j < len → ∃ x u, a = some x ∧ x.block < B ∧ u < 256 ∧ w.cell? (x.add j) = some (.int .u8 ((u : Nat) : Int))

theorem add_block (x : Addr) (j : Nat) : (x.add j).block = x.block := by
  unfold Addr.add; split <;> rfl
theorem Arg.below {B : Nat} {w w' : World} {a : Option Addr} {len : Nat} (h : Arg B w a len) (hb : Below B w w') : Arg B w' a len :=
  ⟨h.1, fun j hj => by
    obtain ⟨x, u, h1, h2, h3, h4⟩ := h.2 j hj
    exact ⟨x, u, h1, h2, h3, by rw [hb.cell (by rw [add_block]; exact h2)]; exact h4⟩⟩

/-- The cursor in block c, over bytes below B. -/
def Cur (B : Nat) (w : World) (c : Nat) : Prop :=
  ∃ (a : Option Addr) (len cap i : Nat) (h : Int), B ≤ c ∧ i ≤ len ∧ Arg B w a len ∧ w.heap[c]? = some (.cells #[.slice a len cap, .int .i64 (i : Int), .int .i64 h] 60 (0, 0))

theorem Cur.lt {B c : Nat} {w : World} (h : Cur B w c) : B ≤ c ∧ c < w.heap.size := by
  obtain ⟨a, len, cap, i, hh, h1, h2, h3, h4⟩ := h
  refine ⟨h1, ?_⟩
  by_cases hc : c < w.heap.size
  · exact hc
  · rw [Array.getElem?_eq_none (by omega)] at h4; cases h4

theorem Cur.kept {B c : Nat} {w w' : World} {row : Option Nat} (h : Cur B w c) (hg : w.grownBy w' row) (hr : ∀ k, row = some k → c < k) : Cur B w' c := by
  have hlt := h.lt
  obtain ⟨a, len, cap, i, hh, h1, h2, h3, h4⟩ := h
  refine ⟨a, len, cap, i, hh, h1, h2, ⟨h3.1, fun j hj => ?_⟩, ?_⟩
  · obtain ⟨x, u, e1, e2, e3, e4⟩ := h3.2 j hj
    refine ⟨x, u, e1, e2, e3, ?_⟩
    rw [World.cell?_of_block (w := w) (hg.block _ (by rw [add_block]; omega) (fun e => by have := hr _ e.symm; rw [add_block] at this; omega))]
    exact e4
  · rw [hg.block c hlt.2 (fun e => by have := hr _ e.symm; omega)]; exact h4

theorem and255 (y : Int) : ∃ x : Nat, x < 256 ∧ bits .and .i64 y 255 = (x : Int) := by
  obtain ⟨b, hb⟩ : ∃ b : BitVec 64, b = BitVec.ofInt 64 y := ⟨_, rfl⟩
  have e : (b &&& BitVec.ofInt 64 255).toNat = b.toNat % 256 := by
    rw [BitVec.toNat_and, show (BitVec.ofInt 64 255).toNat = 2 ^ 8 - 1 from by decide, Nat.and_two_pow_sub_one_eq_mod]
  refine ⟨b.toNat % 256, by omega, ?_⟩
  show IntKind.i64.wrap (((BitVec.ofInt 64 y) &&& (BitVec.ofInt 64 255)).toNat : Int) = _
  rw [← hb, e, IntKind.wrap_i64]
  omega

theorem grown_set (w : World) (a : Addr) (u : Value) : w.grownBy (w.setCell a u) (some a.block) :=
  ⟨rfl, rfl, rfl, by simp, fun k _ hk => Below.heap_setCell w a u k (fun e => hk (by rw [e]))⟩
theorem grown_draws {w w' : World} {row : Option Nat} (h : w.grownBy w' row) (n : Nat) : w.grownBy (w'.drewN n) row := ⟨h.os, h.tape, h.output, h.size, h.block⟩
theorem grown_refl (w : World) (row : Option Nat) : w.grownBy w row := ⟨rfl, rfl, rfl, Nat.le_refl _, fun _ _ _ => rfl⟩

theorem Arg.grown {B c : Nat} {w w' : World} {a : Option Addr} {len : Nat} (h : Arg B w a len) (hg : w.grownBy w' (some c)) (h1 : B ≤ c) (h2 : c < w.heap.size) : Arg B w' a len :=
  ⟨h.1, fun j hj => by
    obtain ⟨x, u, e1, e2, e3, e4⟩ := h.2 j hj
    refine ⟨x, u, e1, e2, e3, ?_⟩
    rw [World.cell?_of_block (w := w) (hg.block _ (by rw [add_block]; omega) (fun e => by rw [add_block] at e; cases e; omega))]
    exact e4⟩

theorem set_h {w : World} {c : Nat} {s i h : Value} {t : TypeId} (v : Value) (H : w.heap[c]? = some (.cells #[s, i, h] t (0, 0))) : (w.setCell ⟨c, 2, none⟩ v).heap[c]? = some (.cells #[s, i, v] t (0, 0)) :=
  heap_setCell_same w c 2 #[s, i, h] t v H
theorem set_i {w : World} {c : Nat} {s i h : Value} {t : TypeId} (v : Value) (H : w.heap[c]? = some (.cells #[s, i, h] t (0, 0))) : (w.setCell ⟨c, 1, none⟩ v).heap[c]? = some (.cells #[s, v, h] t (0, 0)) :=
  heap_setCell_same w c 1 #[s, i, h] t v H

theorem fin_h {B c len cap i : Nat} {w w1 : World} {a : Option Addr} {h : Int} (h1 : B ≤ c) (h2 : i ≤ len) (hlc : c < w.heap.size) (h3 : Arg B w a len) (h4 : w.heap[c]? = some (.cells #[.slice a len cap, .int .i64 (i : Int), .int .i64 h] 60 (0, 0)))
    (h' : Int) (n m : Nat) (hw : w1 = ((w.setCell ⟨c, 2, none⟩ (.int .i64 h')).drewN n).drewN m) : Cur B w1 c ∧ w.grownBy w1 (some c) := by
  subst hw
  have hg : w.grownBy (((w.setCell ⟨c, 2, none⟩ (.int .i64 h')).drewN n).drewN m) (some c) := grown_draws (grown_draws (grown_set w ⟨c, 2, none⟩ _) n) m
  exact ⟨⟨a, len, cap, i, h', h1, h2, h3.grown hg h1 hlc, set_h _ h4⟩, hg⟩
theorem fin_i {B c len cap i : Nat} {w w1 : World} {a : Option Addr} {h : Int} (h1 : B ≤ c) (h2 : i < len) (hlc : c < w.heap.size) (h3 : Arg B w a len) (h4 : w.heap[c]? = some (.cells #[.slice a len cap, .int .i64 (i : Int), .int .i64 h] 60 (0, 0)))
    (h' : Int) (n : Nat) (hw : w1 = ((w.setCell ⟨c, 2, none⟩ (.int .i64 h')).drewN n).setCell ⟨c, 1, none⟩ (.int .i64 ((i : Int) + 1))) : Cur B w1 c ∧ w.grownBy w1 (some c) := by
  subst hw
  have hg : w.grownBy (((w.setCell ⟨c, 2, none⟩ (.int .i64 h')).drewN n).setCell ⟨c, 1, none⟩ (.int .i64 ((i : Int) + 1))) (some c) := (grown_draws (grown_set w ⟨c, 2, none⟩ _) n).trans (grown_set _ ⟨c, 1, none⟩ _)
  exact ⟨⟨a, len, cap, i + 1, h', h1, h2, h3.grown hg h1 hlc, set_i _ (set_h _ h4)⟩, hg⟩

set_option maxHeartbeats 1000000 in
set_option maxRecDepth 100000 in
theorem l01Byte_any (B c : Nat) (w : World) (hc : Cur B w c) :
    Calls Try.prog 49 #[.pointer (some ⟨c, 0, none⟩)] w fun e w' => ∃ x : Nat, x < 256 ∧ e = .returned (.int .i64 (x : Int)) ∧ Cur B w' c ∧ w.grownBy w' (some c) := by
  have hlc := hc.lt
  obtain ⟨a, len, cap, i, h, h1, h2, h3, h4⟩ := hc
  have c0 : w.cell? ⟨c, 0, none⟩ = some (.slice a len cap) := by simp [World.cell?, h4]
  have c1 : w.cell? ⟨c, 1, none⟩ = some (.int .i64 (i : Int)) := by simp [World.cell?, h4]
  have c2 : w.cell? ⟨c, 2, none⟩ = some (.int .i64 h) := by simp [World.cell?, h4]
  have f1 : w.frozen? ⟨c, 1, none⟩ = false := by simp [World.frozen?, h4]
  have f2 : w.frozen? ⟨c, 2, none⟩ = false := by simp [World.frozen?, h4]
  have hl := h3.1
  have H3 := hide h3
  have H4 := hide h4
  by_cases hlt : i < len
  · obtain ⟨x, u, rfl, e2, e3, e4⟩ := h3.2 i hlt
    have e5 : ∀ v, (w.setCell ⟨c, 2, none⟩ v).cell? (x.add i) = some (.int .u8 (u : Int)) := by
      intro v
      rw [World.cell?_of_block (w := w) (Below.heap_setCell w _ v _ (by rw [add_block]; show x.block ≠ c; omega))]
      exact e4
    clear h3 h4 e4
    go_enter Try.func49, Try.ntmps49
    go_wp2
    generalize wrap64 (wrap64 (h * 6364136223846793005) + 1442695040888963407) = h'
    go_quiet (fail)
    go_wp2
    generalize bits BinOp.and IntKind.i64 (bits BinOp.xor IntKind.i64 (h' / 8589934592) (h' / 35184372088832)) 255 = y
    go_quiet (fail)
    go_wp2
    go_quiet (fail)
    go_wp2
    generalize wrap64 (y + (u : Int)) = z
    obtain ⟨x0, hx0, hxe⟩ := and255 z
    go_ret
    exact ⟨x0, hx0, by rw [← hxe]; rfl, fin_i h1 hlt hlc.2 (unhide H3) (unhide H4) h' _ rfl⟩
  · have hlt' : decide ((i : Int) < (len : Int)) = false := by simp; omega
    clear h3 h4
    go_enter Try.func49, Try.ntmps49
    go_wp2
    generalize wrap64 (wrap64 (h * 6364136223846793005) + 1442695040888963407) = h'
    go_quiet (fail)
    go_wp2
    generalize bits BinOp.xor IntKind.i64 (h' / 8589934592) (h' / 35184372088832) = y
    go_quiet (fail)
    go_wp2
    obtain ⟨x0, hx0, hxe⟩ := and255 y
    go_ret
    exact ⟨x0, hx0, by rw [← hxe]; rfl, fin_h h1 h2 hlc.2 (unhide H3) (unhide H4) h' _ _ rfl⟩

/-- Some number below n. -/
theorem l01Below_small (B c n : Nat) (w : World) (hc : Cur B w c) (h0 : 0 < n) (h1 : n ≤ 256) :
    Calls Try.prog 28 #[.pointer (some ⟨c, 0, none⟩), .int .i64 n] w fun e w' => ∃ x : Nat, x < n ∧ e = .returned (.int .i64 (x : Int)) ∧ Cur B w' c ∧ w.grownBy w' (some c) := by
  have q := l01Byte_any B c w hc
  go_enter Try.func28, Try.ntmps28
  go_wp2_with (go_at_call 49; refine q.mono ?_; rintro e w1 ⟨x, hx, rfl, hc1, hg1⟩)
  go_ret
  refine ⟨x % n, Nat.mod_lt _ h0, ?_, by assumption, by assumption⟩
  show Ending.returned (Value.int .i64 _) = _
  congr 2
theorem mod_fin {Y : Int} {n : Nat} {p : Prop} (h0 : 0 < n) (hp : p) : ∃ x : Nat, x < n ∧ Ending.returned (Value.int .i64 (Y % (n : Int))) = .returned (.int .i64 (x : Int)) ∧ p := by
  have h1 : 0 ≤ Y % (n : Int) := Int.emod_nonneg _ (by omega)
  have h2 : Y % (n : Int) < n := Int.emod_lt_of_pos _ (by omega)
  exact ⟨(Y % (n : Int)).toNat, by omega, by rw [Int.toNat_of_nonneg h1], hp⟩
theorem l01Below_great (B c n : Nat) (w : World) (hc : Cur B w c) (h0 : 256 < n) (h1 : n ≤ 4294967296) :
    Calls Try.prog 28 #[.pointer (some ⟨c, 0, none⟩), .int .i64 n] w fun e w' => ∃ x : Nat, x < n ∧ e = .returned (.int .i64 (x : Int)) ∧ Cur B w' c ∧ w.grownBy w' (some c) := by
  have hq := hide (fun W hW => l01Byte_any B c W hW)
  have hg0 := grown_refl w (some c)
  go_enter Try.func28, Try.ntmps28
  go_wp2_with (go_at_call 49; refine (unhide hq _ (by assumption)).mono ?_; rintro e w1 ⟨x, hx, rfl, hc1, hg1⟩; have hg0 := hg0.trans hg1)
  go_ret
  exact mod_fin (by omega) ⟨by assumption, by assumption⟩
theorem l01Below_any (B c n : Nat) (w : World) (hc : Cur B w c) (h0 : 0 < n) (h1 : n ≤ 4294967296) :
    Calls Try.prog 28 #[.pointer (some ⟨c, 0, none⟩), .int .i64 n] w fun e w' => ∃ x : Nat, x < n ∧ e = .returned (.int .i64 (x : Int)) ∧ Cur B w' c ∧ w.grownBy w' (some c) := by
  by_cases h : n ≤ 256
  · exact l01Below_small B c n w hc h0 h
  · exact l01Below_great B c n w hc (by omega) h1

theorem own_apart {w : World} {base e size n c : Nat} {v : Value} {xs : List Value} (h : w.ownsRow base e size v n xs) (hc : c < base) : v.ownBlock = none ∨ v.ownBlock ≠ some c :=
  .inr fun e => by have := (h.lt c e).1; omega
theorem u8_nat (x : Nat) (h : x < 256) : bv [UInt8.ofNat x] = [Value.int .u8 (x : Int)] := by
  simp only [bv, List.map_cons, List.map_nil, UInt8.toNat_ofNat', Nat.reducePow, Nat.mod_eq_of_lt h]

set_option maxHeartbeats 1000000 in
set_option maxRecDepth 100000 in
/-- Some text of n bytes. -/
theorem l01Text_any (B c n : Nat) (w : World) (hc : Cur B w c) (hn : n ≤ 5000) :
    Calls Try.prog 29 #[.pointer (some ⟨c, 0, none⟩), .int .i64 n] w fun e w' => ∃ l : List UInt8, l.length = n ∧ e = .returned (.string ⟨l.toArray⟩) ∧ Cur B w' c ∧ w.grownBy w' (some c) := by
  obtain ⟨i0, hi, hz0, hz1, hz2⟩ := info_parts Try.infoU8
  have hlt := hc.lt
  have hq := hide (fun W hW => l01Byte_any B c W hW)
  go_enter Try.func29, Try.ntmps29
  go_wp2
  go_loopw [5, 6] (fun v i wr => ∃ (pre : List UInt8), pre.length ≤ n ∧ i = .int .i64 (pre.length : Int) ∧ wr.ownsRow w.heap.size 5 1 v pre.length (bv pre) ∧ Cur B wr c ∧ w.grownBy wr (some c))
    (fun _ i _ => n - (intOf i).toNat)
  case atStart => exact ⟨[], Nat.zero_le _, rfl, World.ownsRow_lit w #[] 0 (Nat.le_refl _) (Nat.zero_le _) rfl, hc.kept (World.grownBy_alloc w _ none) (fun k hk => by cases hk), World.grownBy_alloc w _ _⟩
  case round =>
    obtain ⟨pre, hk, rfl, hown, hcr, hgr⟩ := hrel
    have hsz : w.heap.size ≤ wr.heap.size := hgr.size
    obtain ⟨L, hL⟩ : ∃ L, L = pre.length := ⟨_, rfl⟩
    have hL' := hide hL
    rw [← hL] at hk hown ⊢
    clear hL
    by_cases hlt : L < n
    · have hne := own_apart hown (show c < w.heap.size from by omega)
      go_wp2_with (first
        | (go_at_call 49; refine (unhide hq _ (by assumption)).mono ?_; rintro e w1 ⟨x, hx, rfl, hc1, hg1⟩; have hown1 := hown.kept hg1 hne; have hsz1 : w.heap.size ≤ w1.heap.size := Nat.le_trans hsz hg1.size; have hgr1 := hgr.trans hg1)
        | (at_builtin; refine wpList_append_own _ rfl _ _ 22 rfl w.heap.size 5 i0 (.int .u8 0) 1 1 Try.underlying22 hi hz0 hz1 hz2 rfl (by decide) _ _ _ rfl (hown1.alloc _) ⟨w1.heap.size, 0, none⟩ 1 1 [.int .u8 (x : Int)] rfl rfl (news_one _) ?c2 ?c3 ?c4 ?c5 ?_))
      case c2 => intro u hu; simp at hu; subst hu; rfl
      case c3 => unfold maxLen; omega
      case c4 => omega
      case c5 => simp; omega
      intro v' w2 hown' hgrow _
      have hgr2 : w.grownBy w2 (some c) := (hgr1.trans (World.grownBy_alloc _ _ _)).andThen hgrow (fun j hj => .inl (hown1.lt j hj).1)
      have hc2 : Cur B w2 c := (hc1.kept (World.grownBy_alloc _ _ none) (fun k hk => by cases hk)).kept hgrow (fun k hk => by have := (hown1.lt k hk).1; omega)
      have ho2 : w2.ownsRow w.heap.size 5 1 v' (pre ++ [UInt8.ofNat x]).length (bv (pre ++ [UInt8.ofNat x])) := by
        rw [bv_append, List.length_append, u8_nat x hx, ← unhide hL']; exact hown'
      clear hown hown1 hown' hgrow hgr hgr1 hcr hc1 hne
      go_wp2
      go_roundw
      case rel => exact ⟨pre ++ [UInt8.ofNat x], by simp [← unhide hL']; omega, by simp [← unhide hL'], ho2, hc2, hgr2⟩
      case measure => simp [intOf]; omega
    · have hcv := own_str (unhide hL') hown
      go_wp2
      go_ret
      exact ⟨pre, by rw [← unhide hL']; omega, rfl, hcr, hgr⟩
end Go.Proofs.Ytnlcknklghalkaa

/- The draws of the laws: a new cursor; some text of less than 40 bytes; some twelve places. -/
namespace Go.Proofs.Ytnlcknklghalkaa
open Go.RowKit
open Plain
set_option linter.unusedVariables false

theorem Cur.new {B len cap : Nat} {w : World} {a : Option Addr} (ha : Arg B w a len) (hB : B ≤ w.heap.size) (h : Int) : Cur B (w.alloc (.cells #[.slice a len cap, .int .i64 0, .int .i64 h] 60)) w.heap.size :=
  ⟨a, len, cap, 0, h, hB, Nat.zero_le _, ha.below ((Below.refl B w).alloc hB _), heap_alloc_new w _⟩

set_option maxHeartbeats 1000000 in
set_option maxRecDepth 100000 in
theorem l01New_any (B len cap : Nat) (a : Option Addr) (w : World) (ha : Arg B w a len) (hB : B ≤ w.heap.size) :
    Calls Try.prog 13 #[.slice a len cap] w fun e w' => e = .returned (.pointer (some ⟨w.heap.size, 0, none⟩)) ∧ Cur B w' w.heap.size ∧ w.grownBy w' none := by
  have HA := hide ha
  have hl := ha.1
  clear ha
  go_enter Try.func13, Try.ntmps13
  go_wp2
  go_loopw [3, 4] (fun h i wr => ∃ (k : Nat) (y : Int), k ≤ len ∧ i = .int .i64 (k : Int) ∧ h = .int .i64 y ∧ w = wr)
    (fun _ i _ => len - (intOf i).toNat)
  case atStart => exact ⟨0, _, Nat.zero_le _, rfl, rfl, rfl⟩
  case round =>
    obtain ⟨k, y, hk, rfl, rfl, rfl⟩ := hrel
    by_cases hlt : k < len
    · have d1 : decide ((k : Int) < (len : Int)) = true := by simp; omega
      by_cases h4 : k < 4000
      · have d2 : decide ((k : Int) < 4000) = true := by simp; omega
        obtain ⟨x, u, rfl, e2, e3, e4⟩ := (unhide HA).2 k hlt
        go_wp2
        go_roundw
        case rel => exact ⟨k + 1, _, by omega, by go_num, rfl, trivial⟩
        case measure => simp [intOf]; omega
      · have d2 : decide ((k : Int) < 4000) = false := by simp; omega
        go_wp2
        go_ret
        exact ⟨rfl, Cur.new (unhide HA) hB y, World.grownBy_alloc w _ none⟩
    · have d1 : decide ((k : Int) < (len : Int)) = false := by simp; omega
      go_wp2
      go_ret
      exact ⟨rfl, Cur.new (unhide HA) hB y, World.grownBy_alloc w _ none⟩

end Go.Proofs.Ytnlcknklghalkaa

/- The draws of the laws: a name, a right disk. -/
namespace Go.Proofs.Ytnlcknklghalkaa
open Go.RowKit
open Plain
set_option linter.unusedVariables false
set_option linter.unusedSimpArgs false

set_option maxHeartbeats 1000000 in
theorem l01Pick_any (p : ByteArray → Prop) (B c g m cp : Nat) (w : World) (hc : Cur B w c) (hm : 0 < m) (hm2 : m ≤ 1000) (hne : g ≠ c) (hg : g < w.heap.size)
    (hl : ∀ j, j < m → ∃ z : ByteArray, p z ∧ w.cell? ⟨g, j, none⟩ = some (.string z)) :
    Calls Try.prog 33 #[.pointer (some ⟨c, 0, none⟩), .slice (some ⟨g, 0, none⟩) m cp] w fun e w' => ∃ z : ByteArray, p z ∧ e = .returned (.string z) ∧ Cur B w' c ∧ w.grownBy w' (some c) := by
  have q := hide (l01Below_any B c m w hc hm (by omega))
  have HL := hide hl
  clear hl hc
  go_enter Try.func33, Try.ntmps33
  go_wp2_with (go_at_call 28; refine (unhide q).mono ?_; rintro e w1 ⟨x, hx, rfl, hc1, hg1⟩; obtain ⟨z, hz1, hz3⟩ := unhide HL x hx; have hz4 : w1.cell? ⟨g, x, none⟩ = some (.string z) := (World.cell?_of_block (w := w) (a := ⟨g, x, none⟩) (hg1.block g hg (fun e => hne (by cases e; rfl)))).trans hz3)
  go_ret
  exact ⟨z, hz1, rfl, hc1, hg1⟩

set_option maxHeartbeats 1000000 in
set_option maxRecDepth 100000 in
theorem l03Named_any (B c : Nat) (w : World) (hc : Cur B w c) :
    Calls Try.prog 31 #[.pointer (some ⟨c, 0, none⟩)] w fun e w' => ∃ z : ByteArray, nameB z = true ∧ e = .returned (.string z) ∧ Cur B w' c ∧ w.grownBy w' (some c) := by
  have hlt := hc.lt
  have HC := hide hc
  clear hc
  go_enter Try.func31, Try.ntmps31
  go_wp2_with fail
  refine (l01Pick_any (fun z => nameB z = true) B c w.heap.size 8 8 _ ((unhide HC).kept (World.grownBy_alloc _ _ none) (fun k hk => by cases hk)) (by omega) (by omega) (by omega) (by simp) (fun j hj => ?_)).mono ?_
  · match j, hj with
    | 0, _ => exact ⟨_, by decide, cell_of_row _ _ 0 _ _ (0, 0) (heap_alloc_new _ _)⟩
    | 1, _ => exact ⟨_, by decide, cell_of_row _ _ 1 _ _ (0, 0) (heap_alloc_new _ _)⟩
    | 2, _ => exact ⟨_, by decide, cell_of_row _ _ 2 _ _ (0, 0) (heap_alloc_new _ _)⟩
    | 3, _ => exact ⟨_, by decide, cell_of_row _ _ 3 _ _ (0, 0) (heap_alloc_new _ _)⟩
    | 4, _ => exact ⟨_, by decide, cell_of_row _ _ 4 _ _ (0, 0) (heap_alloc_new _ _)⟩
    | 5, _ => exact ⟨_, by decide, cell_of_row _ _ 5 _ _ (0, 0) (heap_alloc_new _ _)⟩
    | 6, _ => exact ⟨_, by decide, cell_of_row _ _ 6 _ _ (0, 0) (heap_alloc_new _ _)⟩
    | 7, _ => exact ⟨_, by decide, cell_of_row _ _ 7 _ _ (0, 0) (heap_alloc_new _ _)⟩
  · rintro e w1 ⟨z, hz, rfl, hc1, hg1⟩
    go_wp2
    go_ret
    exact ⟨z, hz, rfl, hc1, (World.grownBy_alloc _ _ _).trans hg1⟩
end Go.Proofs.Ytnlcknklghalkaa

/- The draws of the laws: a right disk. -/
namespace Go.Proofs.Ytnlcknklghalkaa
open Go.RowKit
open Plain
set_option linter.unusedVariables false
set_option linter.unusedSimpArgs false

theorem row_grown {w w' : World} {b c : Nat} {o : Obj} (h : w.heap[b]? = some o) (hg : w.grownBy w' (some c)) (hne : b ≠ c) : w'.heap[b]? = some o := (hg.block b (row_lt h) (by intro e; exact hne (Option.some.inj e))).trans h
theorem own_grown {w w' : World} {B n m c : Nat} {e t : TypeId} {v : Value} {xs : List Value} {cs : Array Value} {fr : Nat × Nat} (h : w.ownsRow B e m v n xs) (hg : w.grownBy w' (some c)) (hc : w.heap[c]? = some (.cells cs t fr)) (ht : t ≠ e) : w'.ownsRow B e m v n xs := by
  refine ⟨h.1, ?_⟩
  rcases h.2 with h2 | ⟨g, cap, cur, hv, hB, hh, h3⟩
  · exact .inl h2
  · refine .inr ⟨g, cap, cur, hv, hB, (hg.block g (row_lt hh) fun eq => ?_).trans hh, h3⟩
    have eq : g = c := Option.some.inj eq
    subst eq
    rw [hc] at hh
    cases hh
    exact ht rfl
theorem Cur.row {B c : Nat} {w : World} (h : Cur B w c) : ∃ cs, w.heap[c]? = some (.cells cs 60 (0, 0)) := by
  obtain ⟨a, len, cap, i, hh, h1, h2, h3, h4⟩ := h
  exact ⟨_, h4⟩
theorem Cur.up {B c : Nat} {w w' : World} (h : Cur B w c) (hb : Below w.heap.size w w') : Cur B w' c := h.kept (grown_of_below hb none) (fun k hk => by cases hk)
theorem Cur.set {B c b : Nat} {w : World} {u x : Value} {t : TypeId} (h : Cur B w c) (hr : w.heap[b]? = some (.cells #[x] t (0, 0))) (hb : c < b) : Cur B (w.setCell ⟨b, 0, none⟩ u) c := h.kept (grown_set w ⟨b, 0, none⟩ u) (fun k hk => by cases hk; exact hb)

end Go.Proofs.Ytnlcknklghalkaa

/- Plain facts on figures read back. Nothing of the program stands here. -/
namespace Go.Proofs.Ytnlcknklghalkaa.Plain
open Go.RowKit

/-- A byte is a figure. -/
def isF (x : Nat) : Bool := decide (48 ≤ x ∧ x ≤ 57 ∨ 97 ≤ x ∧ x ≤ 102)
/-- Its value. -/
def vf (x : Nat) : Nat := if x ≤ 57 then x - 48 else x - 87

theorem isF_iff (x : Nat) : isF x = true ↔ (48 ≤ x ∧ x ≤ 57 ∨ 97 ≤ x ∧ x ≤ 102) := by simp [isF]
theorem isF_not (x : Nat) : isF x = false ↔ ¬ (48 ≤ x ∧ x ≤ 57 ∨ 97 ≤ x ∧ x ≤ 102) := by simp only [isF, decide_eq_false_iff_not]
theorem vf_lt {x : Nat} (h : isF x = true) : vf x < 16 := by
  rw [isF_iff] at h; unfold vf; split <;> omega
theorem fig_nat {v : Nat} (h : v < 16) : (fig v).toNat = if v < 10 then 48 + v else 87 + v := by
  unfold fig; split <;> rw [UInt8.toNat_ofNat'] <;> omega
theorem fig_vf {x : Nat} (h : isF x = true) : (fig (vf x)).toNat = x := by
  rw [fig_nat (vf_lt h)]; rw [isF_iff] at h; unfold vf; split <;> split <;> omega
theorem vf_fig {v x : Nat} (h : v < 16) (e : (fig v).toNat = x) : isF x = true ∧ vf x = v := by
  rw [fig_nat h] at e; rw [isF_iff]; unfold vf; subst e; split <;> constructor <;> (try split) <;> omega

def ab (l : List UInt8) (k : Nat) : Nat := (l.getD k 0).toNat
def pairB (l : List UInt8) (j : Nat) : UInt8 := UInt8.ofNat (16 * vf (ab l (2 * j)) + vf (ab l (2 * j + 1)))
def outL (l : List UInt8) (n : Nat) : List UInt8 := (List.range n).map (pairB l)
def allF (l : List UInt8) : Bool := l.all fun b => isF b.toNat

theorem ab_at {s : ByteArray} {k : Nat} (h : k < s.size) : ab s.data.toList k = s[k].toNat := by
  unfold ab
  rw [List.getD_eq_getElem?_getD, Array.getElem?_toList, Array.getElem?_eq_getElem (by exact h)]; rfl

theorem outL_succ (l : List UInt8) (n : Nat) : outL l (n + 1) = outL l n ++ [pairB l n] := by
  simp [outL, List.range_succ]
theorem outL_length (l : List UInt8) (n : Nat) : (outL l n).length = n := by simp [outL]

theorem pair_nat {l : List UInt8} {j : Nat} (h1 : isF (ab l (2 * j)) = true) (h2 : isF (ab l (2 * j + 1)) = true) : (pairB l j).toNat = 16 * vf (ab l (2 * j)) + vf (ab l (2 * j + 1)) := by
  have a := vf_lt h1; have b := vf_lt h2
  unfold pairB; rw [UInt8.toNat_ofNat']; omega

theorem allF_of {l : List UInt8} (h : ∀ k, k < l.length → isF (ab l k) = true) : allF l = true := by
  unfold allF
  rw [List.all_eq_true]
  intro b hb
  obtain ⟨k, hk, rfl⟩ := List.getElem_of_mem hb
  have := h k hk
  unfold ab at this
  rwa [List.getD_eq_getElem?_getD, List.getElem?_eq_getElem hk] at this
theorem allF_not {l : List UInt8} {k : Nat} (hk : k < l.length) (h : isF (ab l k) = false) : allF l = false := by
  unfold allF
  rw [← Bool.not_eq_true, List.all_eq_true]
  intro hh
  have := hh l[k] (List.getElem_mem hk)
  unfold ab at h
  rw [List.getD_eq_getElem?_getD, List.getElem?_eq_getElem hk] at h
  simp at h
  rw [h] at this
  cases this

/-- The answer. -/
def unV (l : List UInt8) : Value := if allF l = true then .tuple #[.string ⟨(outL l (l.length / 2)).toArray⟩, .bool true] else .tuple #[.string ⟨#[]⟩, .bool false]

/-- All below k are figures. -/
def Figs (l : List UInt8) (k : Nat) : Prop := ∀ i, i < k → isF (ab l i) = true
theorem Figs.zero (l : List UInt8) : Figs l 0 := fun i h => by omega
theorem Figs.succ {l : List UInt8} {k : Nat} (h : Figs l k) (hk : isF (ab l k) = true) : Figs l (k + 1) := fun i hi => by
  by_cases e : i = k
  · rw [e]; exact hk
  · exact h i (by omega)
theorem un_yes {l : List UInt8} {k : Nat} (h : Figs l k) (hk : l.length ≤ k) : unV l = .tuple #[.string ⟨(outL l (l.length / 2)).toArray⟩, .bool true] :=
  if_pos (allF_of fun i hi => h i (by omega))
theorem un_no {l : List UInt8} {k : Nat} (hk : k < l.length) (h : isF (ab l k) = false) : unV l = .tuple #[.string ⟨#[]⟩, .bool false] :=
  if_neg (by rw [allF_not hk h]; simp)

/-- What is written when i figures were gone through one by one. -/
def impB (l : List UInt8) (i j : Nat) : UInt8 := if 2 * j + 1 < i then pairB l j else if 2 * j < i then UInt8.ofNat (vf (ab l (2 * j))) else 0
def impL (l : List UInt8) (i n : Nat) : List UInt8 := (List.range n).map (impB l i)
theorem impL_length (l : List UInt8) (i n : Nat) : (impL l i n).length = n := by simp [impL]
theorem impL_zero (l : List UInt8) (n : Nat) : impL l 0 n = List.replicate n 0 := by
  unfold impL
  apply List.ext_getElem (by simp)
  intro j h1 h2
  simp [impB]
theorem impL_all {l : List UInt8} {i n : Nat} (h : 2 * n ≤ i) : impL l i n = outL l n := by
  unfold impL outL
  apply List.map_congr_left
  intro j hj
  have : j < n := by simpa using hj
  unfold impB
  rw [if_pos (by omega)]
theorem impL_get {l : List UInt8} {i n j : Nat} (h : j < n) : (impL l i n)[j]? = some (impB l i j) := by
  unfold impL
  rw [List.getElem?_map, List.getElem?_range h]; rfl
/-- What stands where the next figure goes. -/
def impX (l : List UInt8) (i : Nat) : Nat := if i % 2 = 0 then 0 else vf (ab l (i - 1))
theorem impX_lt {l : List UInt8} {i : Nat} (h : Figs l i) : impX l i < 16 := by
  unfold impX
  split
  · omega
  · exact vf_lt (h _ (by omega))
theorem impB_at {l : List UInt8} {i : Nat} (h : Figs l i) : ((impB l i (i / 2)).toNat : Int) = (impX l i : Int) := by
  have hx := impX_lt h
  unfold impB
  rw [if_neg (by omega)]
  by_cases e : i % 2 = 0
  · rw [if_neg (by omega)]
    unfold impX
    rw [if_pos e]; rfl
  · rw [if_pos (by omega), show 2 * (i / 2) = i - 1 from by omega]
    unfold impX at hx ⊢
    rw [if_neg e] at hx ⊢
    rw [UInt8.toNat_ofNat']
    omega
theorem impB_next {l : List UInt8} {i : Nat} (h : Figs l i) (hi : isF (ab l i) = true) : ((impB l (i + 1) (i / 2)).toNat : Int) = (impX l i : Int) * 16 + (vf (ab l i) : Int) := by
  have hv := vf_lt hi
  unfold impB impX
  by_cases e : i % 2 = 0
  · rw [if_neg (by omega), if_pos (by omega), if_pos e, show 2 * (i / 2) = i from by omega, UInt8.toNat_ofNat']
    omega
  · have h1 : isF (ab l (i - 1)) = true := h _ (by omega)
    rw [if_pos (by omega), if_neg e, pair_nat (by rw [show 2 * (i / 2) = i - 1 from by omega]; exact h1) (by rw [show 2 * (i / 2) + 1 = i from by omega]; exact hi), show 2 * (i / 2) = i - 1 from by omega, show i - 1 + 1 = i from by omega]
    omega
theorem impB_same {l : List UInt8} {i j : Nat} (h : j ≠ i / 2) : impB l (i + 1) j = impB l i j := by
  unfold impB
  by_cases h1 : 2 * j + 1 < i
  · rw [if_pos h1, if_pos (by omega)]
  · rw [if_neg h1, if_neg (by omega)]
    by_cases h2 : 2 * j < i
    · rw [if_pos h2, if_pos (by omega)]
    · rw [if_neg h2, if_neg (by omega)]
theorem impL_set {l : List UInt8} {i n : Nat} (h : Figs l i) (hi : isF (ab l i) = true) (hn : i / 2 < n) :
    (bv (impL l i n)).set (i / 2) (.int .u8 ((impX l i : Int) * 16 + (vf (ab l i) : Int))) = bv (impL l (i + 1) n) := by
  apply List.ext_getElem?
  intro j
  rw [List.getElem?_set]
  unfold bv
  rw [List.length_map, impL_length, List.getElem?_map, List.getElem?_map]
  by_cases e : i / 2 = j
  · subst e
    rw [if_pos rfl, if_pos hn, impL_get hn, Option.map_some, impB_next h hi]
  · rw [if_neg e]
    by_cases hj : j < n
    · rw [impL_get hj, impL_get hj, Option.map_some, Option.map_some, impB_same (fun x => e x.symm)]
    · rw [List.getElem?_eq_none (by rw [impL_length]; omega), List.getElem?_eq_none (by rw [impL_length]; omega)]
theorem made_zero (n : Nat) : (madeCells (Value.int .u8 0).cells (n * 1)).toList = bv (List.replicate n 0) := by
  rw [Nat.mul_one]
  rw [show (Value.int .u8 0).cells = #[Value.int .u8 0] from rfl, toList_madeCells_one]
  simp [bv]
theorem made_zero' (n : Nat) : (madeCells #[Value.int .u8 0] n).toList = bv (List.replicate n 0) := by
  have h := made_zero n
  rw [Nat.mul_one] at h
  exact h
end Go.Proofs.Ytnlcknklghalkaa.Plain

/- The draws of the laws: once in a while; one of a list; a long text (DrawNum without grown_below, which Marks has too: not beside DrawNum). -/
namespace Go.Proofs.Ytnlcknklghalkaa
open Go.RowKit
open Plain
set_option linter.unusedVariables false

theorem l01Once_any (B c n : Nat) (w : World) (hc : Cur B w c) (h0 : 0 < n) (h1 : n ≤ 4294967296) :
    Calls Try.prog 37 #[.pointer (some ⟨c, 0, none⟩), .int .i64 n] w fun e w' => ∃ b : Bool, e = .returned (.bool b) ∧ Cur B w' c ∧ w.grownBy w' (some c) := by
  have q := hide (l01Below_any B c n w hc h0 h1)
  go_enter Try.func37, Try.ntmps37
  go_wp2_with (go_at_call 28; refine (unhide q).mono ?_; rintro e w1 ⟨x, hx, rfl, hc1, hg1⟩)
  go_ret
  exact ⟨_, rfl, hc1, hg1⟩

/-- One of a list of numbers. -/
theorem l01PickInt_any (B c g m cp : Nat) (w : World) (hc : Cur B w c) (hm : 0 < m) (hm2 : m ≤ 1000) (hne : g ≠ c) (hg : g < w.heap.size)
    (hl : ∀ j, j < m → ∃ z : Int, -9223372036854775808 ≤ z ∧ z ≤ 9223372036854775807 ∧ w.cell? ⟨g, j, none⟩ = some (.int .i64 z)) :
    Calls Try.prog 32 #[.pointer (some ⟨c, 0, none⟩), .slice (some ⟨g, 0, none⟩) m cp] w fun e w' => ∃ z : Int, -9223372036854775808 ≤ z ∧ z ≤ 9223372036854775807 ∧ e = .returned (.int .i64 z) ∧ Cur B w' c ∧ w.grownBy w' (some c) := by
  have q := hide (l01Below_any B c m w hc hm (by omega))
  have HL := hide hl
  clear hl hc
  go_enter Try.func32, Try.ntmps32
  go_wp2_with (go_at_call 28; refine (unhide q).mono ?_; rintro e w1 ⟨x, hx, rfl, hc1, hg1⟩; obtain ⟨z, hz1, hz2, hz3⟩ := unhide HL x hx; have hz4 : w1.cell? ⟨g, x, none⟩ = some (.int .i64 z) := (World.cell?_of_block (w := w) (a := ⟨g, x, none⟩) (hg1.block g hg (fun e => hne (by cases e; rfl)))).trans hz3)
  go_ret
  exact ⟨z, hz1, hz2, rfl, hc1, hg1⟩

theorem bv_set (l : List UInt8) (j x : Nat) (hx : x < 256) : bv (l.set j (UInt8.ofNat x)) = (bv l).set j (.int .u8 (x : Int)) := by
  unfold bv
  rw [List.map_set]
  congr 2
  simp only [UInt8.toNat_ofNat', Nat.reducePow, Nat.mod_eq_of_lt hx]

set_option maxHeartbeats 1000000 in
set_option maxRecDepth 100000 in
/-- Some text of n bytes. -/
theorem l01Long_any (n x : Nat) (w : World) (hn : n ≤ 1000000) (hx : x < 256) :
    Calls Try.prog 35 #[.int .i64 n, .int .u8 x] w fun e w' => ∃ l : List UInt8, l.length = n ∧ e = .returned (.string ⟨l.toArray⟩) ∧ Below w.heap.size w w' := by
  obtain ⟨i0, hi, hz0, hz1, hz2⟩ := info_parts Try.infoU8
  go_enter Try.func35, Try.ntmps35
  go_wp2_with (at_make; refine wpList_make_full _ rfl _ _ 22 rfl w.heap.size 5 i0 (.int .u8 0) 1 Try.underlying22 hi hz0 hz1 _ _ _ _ n rfl rfl (by omega) (by omega) (by rw [hz2]; omega) (by unfold maxLen; omega) (Nat.le_refl _) ?_)
  intro w0 hown0 hgrow0
  rw [made_zero'] at hown0
  have hb0 : Below w.heap.size w w0 := (Below.refl _ _).grown hgrow0 (Nat.le_refl _) (fun j hj => by cases hj)
  clear hgrow0
  go_wp2
  go_loopw [6] (fun i wr => ∃ (k : Nat) (l : List UInt8), k ≤ n ∧ l.length = n ∧ i = .int .i64 (k : Int) ∧ wr.ownsRow w.heap.size 5 1 (.slice (some ⟨w.heap.size, 0, none⟩) n n) n (bv l) ∧ Below w.heap.size w wr)
    (fun i _ => n - (intOf i).toNat)
  case atStart => exact ⟨0, _, Nat.zero_le _, List.length_replicate .., rfl, hown0, hb0⟩
  case round =>
    obtain ⟨k, l, hk, hll, rfl, hown, hbel⟩ := hrel
    have hll' := hide hll
    clear hll hown0
    by_cases hlt : k < n
    · have hc : ∃ u, wr.cell? ⟨w.heap.size, k, none⟩ = some u := by
        rw [hown.cellAt k (by omega)]
        exact ⟨_, List.getElem?_eq_getElem (by simp [bv, unhide hll']; omega)⟩
      obtain ⟨u, hcell⟩ := hc
      have hfz : wr.frozen? ⟨w.heap.size, k, none⟩ = false := hown.frozenAt _
      go_wp2
      go_roundw
      case rel => exact ⟨k + 1, l.set k (UInt8.ofNat x), by omega, by rw [List.length_set]; exact unhide hll', by go_num, by rw [bv_set l k x hx]; exact (hown.stored k _).1, hbel.setCell (p := ⟨w.heap.size, k, none⟩) (Nat.le_refl _) _⟩
      case measure => simp [intOf]; omega
    · have hcv := own_str (unhide hll').symm hown
      go_wp2
      go_ret
      exact ⟨l, unhide hll', rfl, hbel⟩
end Go.Proofs.Ytnlcknklghalkaa

/- The draws of the laws: some twelve places. -/
namespace Go.Proofs.Ytnlcknklghalkaa
open Go.RowKit
open Plain
set_option linter.unusedVariables false

/-- Numbers as values. -/
def ivN (l : List Nat) : List Value := l.map fun (x : Nat) => Value.int .i64 (x : Int)
theorem ivN_append (l m : List Nat) : ivN (l ++ m) = ivN l ++ ivN m := List.map_append ..
theorem own_mono {w : World} {base base' : Nat} {e : TypeId} {size : Nat} {v : Value} {n : Nat} {xs : List Value} (h : w.ownsRow base e size v n xs) (hb : base' ≤ base) : w.ownsRow base' e size v n xs :=
  ⟨h.1, h.2.imp id fun ⟨g, cap, cur, h1, h2, h3⟩ => ⟨g, cap, cur, h1, Nat.le_trans hb h2, h3⟩⟩
theorem news_int {w : World} (v : Value) : ∀ j u, ([v] : List Value)[j]? = some u → (w.alloc (.cells #[v] 3)).cell? ((⟨w.heap.size, 0, none⟩ : Addr).add j) = some u := by
  intro j u hj
  match j, hj with
  | 0, hj => simp at hj; subst hj; simp [Addr.add]

theorem ivN_is (l : List Nat) : ivN l = iv (l.map fun (x : Nat) => (x : Int)) := by simp [ivN, iv]
end Go.Proofs.Ytnlcknklghalkaa

/- The draws of the laws: a place; what is left; an act. -/
namespace Go.Proofs.Ytnlcknklghalkaa
open Go.RowKit
open Plain
set_option linter.unusedVariables false
set_option linter.unusedSimpArgs false

set_option maxHeartbeats 1000000 in
set_option maxRecDepth 100000 in
theorem l01Place_any (B c n : Nat) (w : World) (hc : Cur B w c) (hn0 : 0 < n) (hn : n ≤ 1000) :
    Calls Try.prog 16 #[.pointer (some ⟨c, 0, none⟩), .int .i64 n] w fun e w' => ∃ z : Int, -9223372036854775808 ≤ z ∧ z ≤ 9223372036854775807 ∧ e = .returned (.int .i64 z) ∧ Cur B w' c ∧ w.grownBy w' (some c) := by
  have hlt := hc.lt
  have HC := hide hc
  clear hc
  go_enter Try.func16, Try.ntmps16
  go_wp2_with fail
  refine (l01Once_any B c 15 _ (unhide HC) (by omega) (by omega)).mono ?_
  rintro e w1 ⟨b, rfl, hc1, hg1⟩
  have hs1 := hg1.size
  have HC1 := hide hc1
  clear hc1
  have hb : b = true ∨ b = false := by cases b <;> simp
  rcases hb with rfl | rfl
  · go_wp2_with fail
    refine (l01PickInt_any B c w1.heap.size 5 5 _ ((unhide HC1).kept (World.grownBy_alloc _ _ none) (fun k hk => by cases hk)) (by omega) (by omega) (by omega) (by simp) (fun j hj => ?_)).mono ?_
    · match j, hj with
      | 0, _ => exact ⟨_, by omega, by omega, cell_of_row _ _ 0 _ _ (0, 0) (heap_alloc_new _ _)⟩
      | 1, _ => exact ⟨_, by omega, by omega, cell_of_row _ _ 1 _ _ (0, 0) (heap_alloc_new _ _)⟩
      | 2, _ => exact ⟨_, by omega, by omega, cell_of_row _ _ 2 _ _ (0, 0) (heap_alloc_new _ _)⟩
      | 3, _ => exact ⟨_, by omega, by omega, cell_of_row _ _ 3 _ _ (0, 0) (heap_alloc_new _ _)⟩
      | 4, _ => exact ⟨_, by omega, by omega, cell_of_row _ _ 4 _ _ (0, 0) (heap_alloc_new _ _)⟩
    · rintro e w2 ⟨z, hz1, hz2, rfl, hc2, hg2⟩
      go_wp2
      go_ret
      exact ⟨z, hz1, hz2, rfl, hc2, hg1.trans ((World.grownBy_alloc _ _ _).trans hg2)⟩
  · go_wp2_with fail
    refine (l01Below_any B c n _ (unhide HC1) hn0 (by omega)).mono ?_
    rintro e w2 ⟨x, hx, rfl, hc2, hg2⟩
    go_wp2
    go_ret
    exact ⟨_, by omega, by omega, rfl, hc2, hg1.trans hg2⟩
theorem iv_append (l m : List Int) : iv (l ++ m) = iv l ++ iv m := List.map_append ..

set_option maxHeartbeats 1000000 in
set_option maxRecDepth 100000 in
theorem l03Left_any (B c : Nat) (w : World) (hc : Cur B w c) :
    Calls Try.prog 17 #[.pointer (some ⟨c, 0, none⟩)] w fun e w' => ∃ (v : Value) (l : List Int), l.length ≤ 6 ∧ e = .returned v ∧ OwnI w.heap.size w' v l ∧ Cur B w' c ∧ w.grownBy w' (some c) := by
  obtain ⟨i0, hi, hz0, hz1, hz2⟩ := info_parts Try.infoInt
  have hlt := hc.lt
  go_enter Try.func17, Try.ntmps17
  go_wp2
  go_loopw [3, 4] (fun v i wr => ∃ (l : List Int), l.length ≤ 6 ∧ i = .int .i64 (l.length : Int) ∧ wr.ownsRow w.heap.size 3 1 v l.length (iv l) ∧ Cur B wr c ∧ w.grownBy wr (some c))
    (fun _ i _ => 6 - (intOf i).toNat)
  case atStart => exact ⟨[], Nat.zero_le _, rfl, World.ownsRow_lit w #[] 0 (Nat.le_refl _) (Nat.zero_le _) rfl, hc.kept (World.grownBy_alloc w _ none) (fun k hk => by cases hk), World.grownBy_alloc w _ _⟩
  case round =>
    obtain ⟨l, hk, rfl, hown, hcr, hgr⟩ := hrel
    have hsz : w.heap.size ≤ wr.heap.size := hgr.size
    obtain ⟨L, hL⟩ : ∃ L, L = l.length := ⟨_, rfl⟩
    have hL' := hide hL
    rw [← hL] at hk hown ⊢
    clear hL hc
    have hne := own_apart hown (show c < w.heap.size from by omega)
    go_wp2_with fail
    refine (l01Below_any B c 6 _ hcr (by omega) (by omega)).mono ?_
    rintro e w1 ⟨x, hx, rfl, hc1, hg1⟩
    have hown1 := hown.kept hg1 hne
    have hsz1 : w.heap.size ≤ w1.heap.size := Nat.le_trans hsz hg1.size
    have hgr1 := hgr.trans hg1
    have hlc1 := hc1.lt
    clear hown hcr hgr hg1 hne
    by_cases hlx : L < x
    · have hne1 := own_apart (hown1.alloc (.cells #[.int .i64 0, .int .i64 1, .int .i64 2, .int .i64 3, .int .i64 5, .int .i64 9, .int .i64 40, .int .i64 200, .int .i64 (-1), .int .i64 9223372036854775807] 3)) (show c < w.heap.size from by omega)
      go_wp2_with fail
      refine (l01PickInt_any B c w1.heap.size 10 10 _ (hc1.kept (World.grownBy_alloc _ _ none) (fun k hk => by cases hk)) (by omega) (by omega) (by omega) (by simp) (fun j hj => ?_)).mono ?_
      · match j, hj with
        | 0, _ => exact ⟨_, by omega, by omega, cell_of_row _ _ 0 _ _ (0, 0) (heap_alloc_new _ _)⟩
        | 1, _ => exact ⟨_, by omega, by omega, cell_of_row _ _ 1 _ _ (0, 0) (heap_alloc_new _ _)⟩
        | 2, _ => exact ⟨_, by omega, by omega, cell_of_row _ _ 2 _ _ (0, 0) (heap_alloc_new _ _)⟩
        | 3, _ => exact ⟨_, by omega, by omega, cell_of_row _ _ 3 _ _ (0, 0) (heap_alloc_new _ _)⟩
        | 4, _ => exact ⟨_, by omega, by omega, cell_of_row _ _ 4 _ _ (0, 0) (heap_alloc_new _ _)⟩
        | 5, _ => exact ⟨_, by omega, by omega, cell_of_row _ _ 5 _ _ (0, 0) (heap_alloc_new _ _)⟩
        | 6, _ => exact ⟨_, by omega, by omega, cell_of_row _ _ 6 _ _ (0, 0) (heap_alloc_new _ _)⟩
        | 7, _ => exact ⟨_, by omega, by omega, cell_of_row _ _ 7 _ _ (0, 0) (heap_alloc_new _ _)⟩
        | 8, _ => exact ⟨_, by omega, by omega, cell_of_row _ _ 8 _ _ (0, 0) (heap_alloc_new _ _)⟩
        | 9, _ => exact ⟨_, by omega, by omega, cell_of_row _ _ 9 _ _ (0, 0) (heap_alloc_new _ _)⟩
      rintro e w2 ⟨z, hz1', hz2', rfl, hc2, hg2⟩
      have hown2 := (hown1.alloc _).kept hg2 hne1
      have hgr2 := (hgr1.trans (World.grownBy_alloc _ _ _)).trans hg2
      have hsz2 := hgr2.size
      have hlc2 := hc2.lt
      clear hown1 hgr1 hg2 hne1 hc1
      go_wp2_with (at_builtin; refine wpList_append_own _ rfl _ _ 28 rfl w.heap.size 3 i0 (.int .i64 0) 1 8 Try.underlying28 hi hz0 hz1 hz2 rfl (by decide) _ _ _ rfl (hown2.alloc _) ⟨w2.heap.size, 0, none⟩ 1 1 [.int .i64 z] rfl rfl (news_int _) ?c2 ?c3 ?c4 ?c5 ?_)
      case c2 => intro u hu; simp at hu; subst hu; rfl
      case c3 => unfold maxLen; omega
      case c4 => omega
      case c5 => simp; omega
      intro v' w3 hown' hgrow _
      have hgr3 : w.grownBy w3 (some c) := (hgr2.trans (World.grownBy_alloc _ _ _)).andThen hgrow (fun j hj => .inl (hown2.lt j hj).1)
      have hc3 : Cur B w3 c := (hc2.kept (World.grownBy_alloc _ _ none) (fun k hk => by cases hk)).kept hgrow (fun k hk => by have := (hown2.lt k hk).1; omega)
      have ho3 : w3.ownsRow w.heap.size 3 1 v' (l ++ [z]).length (iv (l ++ [z])) := by
        rw [iv_append, List.length_append, ← unhide hL']; exact hown'
      clear hown2 hown' hgrow hgr2 hc2
      go_wp2
      go_roundw
      case rel => exact ⟨l ++ [z], by simp [← unhide hL']; omega, by simp [← unhide hL'], ho3, hc3, hgr3⟩
      case measure => simp [intOf]; omega
    · go_wp2
      go_ret
      exact ⟨_, l, by rw [← unhide hL']; exact hk, rfl, by unfold OwnI; rw [← unhide hL']; exact hown1, hc1, hgr1⟩
end Go.Proofs.Ytnlcknklghalkaa

/- The draws of the laws: an act. -/
namespace Go.Proofs.Ytnlcknklghalkaa
open Go.RowKit
open Plain
set_option linter.unusedVariables false
set_option linter.unusedSimpArgs false

/-- The draw of an act under way: its box in block g, the answer's own box, the cursor. -/
structure AS (B c : Nat) (w W : World) (g : Nat) (a : Ac) : Prop where
  lt : w.heap.size < g
  res : W.heap[w.heap.size]? = some (.cells #[.int .i64 0, .string ⟨#[]⟩, .string ⟨#[]⟩, .string ⟨#[]⟩] 37 (0, 0))
  box : W.heap[g]? = some (.cells #[.int .i64 a.kind, .string a.name, .string a.text, .string a.to] 37 (0, 0))
  small : SmallA 1048576 a
  cur : Cur B W c
  grown : w.grownBy W (some c)
  ltc : c < w.heap.size
namespace AS
variable {B c g : Nat} {w W W' : World} {a : Ac}
theorem call (h : AS B c w W g a) (hc : Cur B W' c) (hg : W.grownBy W' (some c)) : AS B c w W' g a :=
  ⟨h.lt, (hg.block _ (row_lt h.res) (fun e => by have := h.ltc; cases e; omega)).trans h.res, (hg.block _ (row_lt h.box) (fun e => by have := h.ltc; have := h.lt; cases e; omega)).trans h.box, h.small, hc, h.grown.trans hg, h.ltc⟩
theorem alloc (h : AS B c w W g a) (o : Obj) : AS B c w (W.alloc o) g a :=
  h.call (h.cur.kept (World.grownBy_alloc _ _ none) (fun k hk => by cases hk)) (World.grownBy_alloc _ _ _)
theorem set (h : AS B c w W g a) (k : Nat) (u : Value) (b : Ac) (hb : #[Value.int .i64 a.kind, .string a.name, .string a.text, .string a.to].setIfInBounds k u = #[.int .i64 b.kind, .string b.name, .string b.text, .string b.to]) (hs : SmallA 1048576 b) : AS B c w (W.setCell ⟨g, k, none⟩ u) g b := by
  have h1 := h.lt
  have h2 := h.ltc
  refine ⟨h1, (Below.heap_setCell W ⟨g, k, none⟩ u _ (by show w.heap.size ≠ g; omega)).trans h.res, ?_, hs, h.cur.kept (grown_set W ⟨g, k, none⟩ u) (fun j hj => by cases hj; show c < g; omega), h.grown.andThen (grown_set W ⟨g, k, none⟩ u) (fun j hj => by cases hj; exact .inl (Nat.le_of_lt h1)), h2⟩
  rw [← hb]
  exact heap_setCell_same W g k _ _ u h.box
theorem cells (h : AS B c w W g a) : W.cell? ⟨g, 0, none⟩ = some (.int .i64 a.kind) ∧ W.cell? ⟨g, 1, none⟩ = some (.string a.name) ∧ W.cell? ⟨g, 2, none⟩ = some (.string a.text) ∧ W.cell? ⟨g, 3, none⟩ = some (.string a.to) := row_cell4 h.box
theorem frozen (h : AS B c w W g a) (k : Nat) : W.frozen? ⟨g, k, none⟩ = false := frozen_of_row W g k _ _ h.box
theorem rfrozen (h : AS B c w W g a) (k : Nat) : W.frozen? ⟨w.heap.size, k, none⟩ = false := frozen_of_row W _ k _ _ h.res
theorem rcells (h : AS B c w W g a) : W.cell? ⟨w.heap.size, 0, none⟩ = some (.int .i64 0) ∧ W.cell? ⟨w.heap.size, 1, none⟩ = some (.string ⟨#[]⟩) ∧ W.cell? ⟨w.heap.size, 2, none⟩ = some (.string ⟨#[]⟩) ∧ W.cell? ⟨w.heap.size, 3, none⟩ = some (.string ⟨#[]⟩) := row_cell4 h.res
theorem fin (h : AS B c w W g a) (x y z u : Value) : ((((W.setCell ⟨w.heap.size, 0, none⟩ x).setCell ⟨w.heap.size, 1, none⟩ y).setCell ⟨w.heap.size, 2, none⟩ z).setCell ⟨w.heap.size, 3, none⟩ u).heap[w.heap.size]? = some (.cells #[x, y, z, u] 37 (0, 0)) ∧
    Cur B ((((W.setCell ⟨w.heap.size, 0, none⟩ x).setCell ⟨w.heap.size, 1, none⟩ y).setCell ⟨w.heap.size, 2, none⟩ z).setCell ⟨w.heap.size, 3, none⟩ u) c ∧ w.grownBy ((((W.setCell ⟨w.heap.size, 0, none⟩ x).setCell ⟨w.heap.size, 1, none⟩ y).setCell ⟨w.heap.size, 2, none⟩ z).setCell ⟨w.heap.size, 3, none⟩ u) (some c) := by
  have h1 := h.ltc
  have e0 := heap_setCell_same W _ 0 _ _ x h.res
  have e1 := heap_setCell_same _ _ 1 _ _ y e0
  have e2 := heap_setCell_same _ _ 2 _ _ z e1
  have e3 := heap_setCell_same _ _ 3 _ _ u e2
  have gs : ∀ (V : World) (k : Nat) (v : Value), V.grownBy (V.setCell ⟨w.heap.size, k, none⟩ v) (some w.heap.size) := fun V k v => grown_set V ⟨w.heap.size, k, none⟩ v
  have gg := (((gs W 0 x).trans (gs _ 1 y)).trans (gs _ 2 z)).trans (gs _ 3 u)
  exact ⟨e3, h.cur.kept gg (fun j hj => by cases hj; exact h1), h.grown.andThen gg (fun j hj => by cases hj; exact .inl (Nat.le_refl _))⟩
end AS

theorem nameB_small {n : ByteArray} (h : nameB n = true) : n.size ≤ 1048576 := by
  simp [nameB] at h
  omega

set_option maxHeartbeats 1000000 in
set_option maxRecDepth 100000 in
theorem l03Act_any (B c : Nat) (w : World) (hc : Cur B w c) :
    Calls Try.prog 36 #[.pointer (some ⟨c, 0, none⟩)] w fun e w' => ∃ (a : Ac), SmallA 1048576 a ∧ e = .returned (.agg (ac a)) ∧ Cur B w' c ∧ w.grownBy w' (some c) := by
  have hlt := hc.lt
  have hc0 := hide hc
  clear hc
  go_enter Try.func36, Try.ntmps36
  go_wp2_with fail
  have HR := hide (heap_alloc_new w (.cells #[.int .i64 0, .string ⟨#[]⟩, .string ⟨#[]⟩, .string ⟨#[]⟩] 37 (0, 0)))
  refine (l01Below_any B c 4 _ ((unhide hc0).kept (World.grownBy_alloc _ _ none) (fun k hk => by cases hk)) (by omega) (by omega)).mono ?_
  rintro e w1 ⟨x, hx, rfl, hc1, hg1⟩
  have HR1 := hide ((hg1.block _ (row_lt (unhide HR)) (fun e => by cases e; omega)).trans (unhide HR))
  have hz1 := (World.grownBy_alloc w (.cells #[.int .i64 0, .string ⟨#[]⟩, .string ⟨#[]⟩, .string ⟨#[]⟩] 37 (0, 0)) (some c)).trans hg1
  clear HR hc0 hg1
  go_wp2_with fail
  refine (l03Named_any B c _ hc1).mono ?_
  rintro e w2 ⟨nm, hnm, rfl, hc2, hg2⟩
  have HR2 := hide ((hg2.block _ (row_lt (unhide HR1)) (fun e => by cases e; omega)).trans (unhide HR1))
  have hz2 := hz1.trans hg2
  have hlr : w.heap.size < w2.heap.size := row_lt (unhide HR2)
  clear HR1 hz1 hg2 hc1

  have hn8 : nm.size ≤ 1048576 := nameB_small hnm
  go_upto_region 2 with fail
  have S0 : AS B c w (w2.alloc (.cells #[.int .i64 (1 + (x : Int)), .string nm, .string ⟨#[]⟩, .string ⟨#[]⟩] 37 (0, 0))) w2.heap.size ⟨1 + (x : Int), nm, ⟨#[]⟩, ⟨#[]⟩⟩ :=
    ⟨hlr, ((World.grownBy_alloc w2 _ none).block _ hlr (by simp)).trans (unhide HR2), heap_alloc_new _ _, ⟨hn8, Nat.zero_le _, Nat.zero_le _⟩, hc2.kept (World.grownBy_alloc _ _ none) (fun k hk => by cases hk), hz2.trans (World.grownBy_alloc _ _ _), hlt.2⟩
  revert S0
  generalize (w2.alloc (.cells #[.int .i64 (1 + (x : Int)), .string nm, .string ⟨#[]⟩, .string ⟨#[]⟩] 37 (0, 0))) = W0
  generalize w2.heap.size = g
  intro S0
  clear HR2 hz2 hlr hc2 hnm
  obtain ⟨k0, k1, k2, k3⟩ := S0.cells
  have hx3 : x = 0 ∨ x = 2 ∨ (x ≠ 0 ∧ x ≠ 2) := by omega
  rcases hx3 with rfl | rfl | ⟨hx0, hx2⟩

  · have S1 : AS B c w W0 g ⟨1, nm, ⟨#[]⟩, ⟨#[]⟩⟩ := S0
    clear S0
    go_wp2_with fail
    refine (l01Below_any B c 6 _ S1.cur (by omega) (by omega)).mono ?_
    rintro e wa ⟨m, hm, rfl, hca, hga⟩
    have S2 := S1.call hca hga
    clear S1 hca hga k0 k1 k2 k3
    go_wp2_with fail
    refine (l01Text_any B c m _ S2.cur (by omega)).mono ?_
    rintro e wb ⟨l, hl, rfl, hcb, hgb⟩
    have S3 := S2.call hcb hgb
    have hl2 : (⟨l.toArray⟩ : ByteArray).size ≤ 1048576 := by show l.toArray.size ≤ 1048576; rw [List.size_toArray]; omega
    clear S2 hcb hgb hl
    have fz := S3.frozen 2
    obtain ⟨k0, k1, k2, k3⟩ := S3.cells
    go_upto_region 7 with fail
    have S4 : AS B c w (wb.setCell ⟨g, 2, none⟩ (.string ⟨l.toArray⟩)) g ⟨1, nm, ⟨l.toArray⟩, ⟨#[]⟩⟩ := S3.set 2 (.string ⟨l.toArray⟩) ⟨1, nm, ⟨l.toArray⟩, ⟨#[]⟩⟩ rfl ⟨S3.small.1, hl2, S3.small.2.2⟩
    revert S4
    generalize wb.setCell ⟨g, 2, none⟩ (.string ⟨l.toArray⟩) = wc
    intro S4
    clear fz k0 k1 k2 k3 S3
    go_wp2_with fail
    refine (l01Below_any B c 40 _ S4.cur (by omega) (by omega)).mono ?_
    rintro e wy ⟨y, hy, rfl, hcy, hgy⟩
    have Sy := S4.call hcy hgy
    clear S4 hcy hgy
    have hy5 : y = 0 ∨ y = 1 ∨ y = 2 ∨ y = 3 ∨ 4 ≤ y := by omega
    rcases hy5 with rfl | rfl | rfl | rfl | hy4
    · go_wp2_with fail
      have Sa := Sy.alloc (.cells #[.int .i64 0, .int .i64 5] 3)
      refine (l01PickInt_any B c wy.heap.size 2 2 _ Sa.cur (by omega) (by omega) (by have := Sy.cur.lt; omega) (by simp) (fun j hj => ?_)).mono ?_
      · match j, hj with
          | 0, _ => exact ⟨_, by omega, by omega, cell_of_row _ _ 0 _ _ (0, 0) (heap_alloc_new _ _)⟩
          | 1, _ => exact ⟨_, by omega, by omega, cell_of_row _ _ 1 _ _ (0, 0) (heap_alloc_new _ _)⟩
      rintro e wp ⟨z, hz1, hz2, rfl, hcz, hgz⟩
      have Sp := Sa.call hcz hgz
      clear Sa Sy hcz hgz
      have fz := Sp.frozen 0
      obtain ⟨k0, k1, k2, k3⟩ := Sp.cells
      go_upto_region 16 with fail
      have Sz : AS B c w (wp.setCell ⟨g, 0, none⟩ (.int .i64 z)) g ⟨z, nm, ⟨l.toArray⟩, ⟨#[]⟩⟩ := Sp.set 0 (.int .i64 z) ⟨z, nm, ⟨l.toArray⟩, ⟨#[]⟩⟩ rfl Sp.small
      revert Sz
      generalize wp.setCell ⟨g, 0, none⟩ (.int .i64 z) = wz
      intro Sz
      clear fz k0 k1 k2 k3 Sp
      have hsm := Sz.small
      obtain ⟨k0, k1, k2, k3⟩ := Sz.cells
      obtain ⟨r0, r1, r2, r3⟩ := Sz.rcells
      have rf0 := Sz.rfrozen 0
      have rf1 := Sz.rfrozen 1
      have rf2 := Sz.rfrozen 2
      have rf3 := Sz.rfrozen 3
      have hfin := Sz.fin (.int .i64 z) (.string nm) (.string ⟨l.toArray⟩) (.string ⟨#[]⟩)
      go_wp2
      revert hfin
      generalize ((((wz.setCell ⟨w.heap.size, 0, none⟩ (.int .i64 z)).setCell ⟨w.heap.size, 1, none⟩ (.string nm)).setCell ⟨w.heap.size, 2, none⟩ (.string ⟨l.toArray⟩)).setCell ⟨w.heap.size, 3, none⟩ (.string ⟨#[]⟩)) = wf
      rintro ⟨hf1, hf2, hf3⟩
      clear k0 k1 k2 k3 r0 r1 r2 r3 rf0 rf1 rf2 rf3 Sz
      obtain ⟨r0, r1, r2, r3⟩ := row_cell4 hf1
      refine bodyPost_ret (by simp [results, Try.results36, go_sem, r0, r1, r2, r3]; try rfl) rfl ?_
      exact ⟨⟨z, nm, ⟨l.toArray⟩, ⟨#[]⟩⟩, hsm, rfl, hf2, hf3⟩
    · go_wp2_with fail
      have Sa := Sy.alloc (.cells #[.string ⟨#[]⟩, .string ⟨#[49, 50, 51, 52, 53, 54, 55, 56, 57]⟩, .string ⟨#[110, 101, 119]⟩] 9)
      refine (l01Pick_any (fun z => z.size ≤ 9) B c wy.heap.size 3 3 _ Sa.cur (by omega) (by omega) (by have := Sy.cur.lt; omega) (by simp) (fun j hj => ?_)).mono ?_
      · match j, hj with
          | 0, _ => exact ⟨_, by decide, cell_of_row _ _ 0 _ _ (0, 0) (heap_alloc_new _ _)⟩
          | 1, _ => exact ⟨_, by decide, cell_of_row _ _ 1 _ _ (0, 0) (heap_alloc_new _ _)⟩
          | 2, _ => exact ⟨_, by decide, cell_of_row _ _ 2 _ _ (0, 0) (heap_alloc_new _ _)⟩
      rintro e wp ⟨z, hz1, rfl, hcz, hgz⟩
      have hz2 : z.size ≤ 1048576 := Nat.le_trans hz1 (by omega)
      have Sp := Sa.call hcz hgz
      clear Sa Sy hcz hgz hz1
      have fz := Sp.frozen 1
      obtain ⟨k0, k1, k2, k3⟩ := Sp.cells
      go_upto_region 16 with fail
      have Sz : AS B c w (wp.setCell ⟨g, 1, none⟩ (.string z)) g ⟨1, z, ⟨l.toArray⟩, ⟨#[]⟩⟩ := Sp.set 1 (.string z) ⟨1, z, ⟨l.toArray⟩, ⟨#[]⟩⟩ rfl ⟨hz2, Sp.small.2⟩
      revert Sz
      generalize wp.setCell ⟨g, 1, none⟩ (.string z) = wz
      intro Sz
      clear fz k0 k1 k2 k3 Sp
      have hsm := Sz.small
      obtain ⟨k0, k1, k2, k3⟩ := Sz.cells
      obtain ⟨r0, r1, r2, r3⟩ := Sz.rcells
      have rf0 := Sz.rfrozen 0
      have rf1 := Sz.rfrozen 1
      have rf2 := Sz.rfrozen 2
      have rf3 := Sz.rfrozen 3
      have hfin := Sz.fin (.int .i64 1) (.string z) (.string ⟨l.toArray⟩) (.string ⟨#[]⟩)
      go_wp2
      revert hfin
      generalize ((((wz.setCell ⟨w.heap.size, 0, none⟩ (.int .i64 1)).setCell ⟨w.heap.size, 1, none⟩ (.string z)).setCell ⟨w.heap.size, 2, none⟩ (.string ⟨l.toArray⟩)).setCell ⟨w.heap.size, 3, none⟩ (.string ⟨#[]⟩)) = wf
      rintro ⟨hf1, hf2, hf3⟩
      clear k0 k1 k2 k3 r0 r1 r2 r3 rf0 rf1 rf2 rf3 Sz
      obtain ⟨r0, r1, r2, r3⟩ := row_cell4 hf1
      refine bodyPost_ret (by simp [results, Try.results36, go_sem, r0, r1, r2, r3]; try rfl) rfl ?_
      exact ⟨⟨1, z, ⟨l.toArray⟩, ⟨#[]⟩⟩, hsm, rfl, hf2, hf3⟩
    · have fz := Sy.frozen 3
      obtain ⟨k0, k1, k2, k3⟩ := Sy.cells
      go_upto_region 16 with fail
      have Sz : AS B c w (wy.setCell ⟨g, 3, none⟩ (.string ⟨#[120]⟩)) g ⟨1, nm, ⟨l.toArray⟩, ⟨#[120]⟩⟩ := Sy.set 3 (.string ⟨#[120]⟩) ⟨1, nm, ⟨l.toArray⟩, ⟨#[120]⟩⟩ rfl ⟨Sy.small.1, Sy.small.2.1, by show (1 : Nat) ≤ 1048576; omega⟩
      revert Sz
      generalize wy.setCell ⟨g, 3, none⟩ (.string ⟨#[120]⟩) = wz
      intro Sz
      clear fz k0 k1 k2 k3 Sy
      have hsm := Sz.small
      obtain ⟨k0, k1, k2, k3⟩ := Sz.cells
      obtain ⟨r0, r1, r2, r3⟩ := Sz.rcells
      have rf0 := Sz.rfrozen 0
      have rf1 := Sz.rfrozen 1
      have rf2 := Sz.rfrozen 2
      have rf3 := Sz.rfrozen 3
      have hfin := Sz.fin (.int .i64 1) (.string nm) (.string ⟨l.toArray⟩) (.string ⟨#[120]⟩)
      go_wp2
      revert hfin
      generalize ((((wz.setCell ⟨w.heap.size, 0, none⟩ (.int .i64 1)).setCell ⟨w.heap.size, 1, none⟩ (.string nm)).setCell ⟨w.heap.size, 2, none⟩ (.string ⟨l.toArray⟩)).setCell ⟨w.heap.size, 3, none⟩ (.string ⟨#[120]⟩)) = wf
      rintro ⟨hf1, hf2, hf3⟩
      clear k0 k1 k2 k3 r0 r1 r2 r3 rf0 rf1 rf2 rf3 Sz
      obtain ⟨r0, r1, r2, r3⟩ := row_cell4 hf1
      refine bodyPost_ret (by simp [results, Try.results36, go_sem, r0, r1, r2, r3]; try rfl) rfl ?_
      exact ⟨⟨1, nm, ⟨l.toArray⟩, ⟨#[120]⟩⟩, hsm, rfl, hf2, hf3⟩
    · have fz := Sy.frozen 2
      obtain ⟨k0, k1, k2, k3⟩ := Sy.cells
      go_upto_region 16 with fail
      have Sz : AS B c w (wy.setCell ⟨g, 2, none⟩ (.string ⟨#[120]⟩)) g ⟨1, nm, ⟨#[120]⟩, ⟨#[]⟩⟩ := Sy.set 2 (.string ⟨#[120]⟩) ⟨1, nm, ⟨#[120]⟩, ⟨#[]⟩⟩ rfl ⟨Sy.small.1, by show (1 : Nat) ≤ 1048576; omega, Sy.small.2.2⟩
      revert Sz
      generalize wy.setCell ⟨g, 2, none⟩ (.string ⟨#[120]⟩) = wz
      intro Sz
      clear fz k0 k1 k2 k3 Sy
      have hsm := Sz.small
      obtain ⟨k0, k1, k2, k3⟩ := Sz.cells
      obtain ⟨r0, r1, r2, r3⟩ := Sz.rcells
      have rf0 := Sz.rfrozen 0
      have rf1 := Sz.rfrozen 1
      have rf2 := Sz.rfrozen 2
      have rf3 := Sz.rfrozen 3
      have hfin := Sz.fin (.int .i64 1) (.string nm) (.string ⟨#[120]⟩) (.string ⟨#[]⟩)
      go_wp2
      revert hfin
      generalize ((((wz.setCell ⟨w.heap.size, 0, none⟩ (.int .i64 1)).setCell ⟨w.heap.size, 1, none⟩ (.string nm)).setCell ⟨w.heap.size, 2, none⟩ (.string ⟨#[120]⟩)).setCell ⟨w.heap.size, 3, none⟩ (.string ⟨#[]⟩)) = wf
      rintro ⟨hf1, hf2, hf3⟩
      clear k0 k1 k2 k3 r0 r1 r2 r3 rf0 rf1 rf2 rf3 Sz
      obtain ⟨r0, r1, r2, r3⟩ := row_cell4 hf1
      refine bodyPost_ret (by simp [results, Try.results36, go_sem, r0, r1, r2, r3]; try rfl) rfl ?_
      exact ⟨⟨1, nm, ⟨#[120]⟩, ⟨#[]⟩⟩, hsm, rfl, hf2, hf3⟩
    · go_upto_region 16 with fail
      have hsm := Sy.small
      obtain ⟨k0, k1, k2, k3⟩ := Sy.cells
      obtain ⟨r0, r1, r2, r3⟩ := Sy.rcells
      have rf0 := Sy.rfrozen 0
      have rf1 := Sy.rfrozen 1
      have rf2 := Sy.rfrozen 2
      have rf3 := Sy.rfrozen 3
      have hfin := Sy.fin (.int .i64 1) (.string nm) (.string ⟨l.toArray⟩) (.string ⟨#[]⟩)
      go_wp2
      revert hfin
      generalize ((((wy.setCell ⟨w.heap.size, 0, none⟩ (.int .i64 1)).setCell ⟨w.heap.size, 1, none⟩ (.string nm)).setCell ⟨w.heap.size, 2, none⟩ (.string ⟨l.toArray⟩)).setCell ⟨w.heap.size, 3, none⟩ (.string ⟨#[]⟩)) = wf
      rintro ⟨hf1, hf2, hf3⟩
      clear k0 k1 k2 k3 r0 r1 r2 r3 rf0 rf1 rf2 rf3 Sy
      obtain ⟨r0, r1, r2, r3⟩ := row_cell4 hf1
      refine bodyPost_ret (by simp [results, Try.results36, go_sem, r0, r1, r2, r3]; try rfl) rfl ?_
      exact ⟨⟨1, nm, ⟨l.toArray⟩, ⟨#[]⟩⟩, hsm, rfl, hf2, hf3⟩
  · have S1 : AS B c w W0 g ⟨3, nm, ⟨#[]⟩, ⟨#[]⟩⟩ := S0
    clear S0
    go_wp2_with fail
    refine (l03Named_any B c _ S1.cur).mono ?_
    rintro e wb ⟨n2, hn2, rfl, hcb, hgb⟩
    have S3 := S1.call hcb hgb
    have hn3 := nameB_small hn2
    clear S1 hcb hgb hn2 k0 k1 k2 k3
    have fz := S3.frozen 3
    obtain ⟨k0, k1, k2, k3⟩ := S3.cells
    go_upto_region 7 with fail
    have S4 : AS B c w (wb.setCell ⟨g, 3, none⟩ (.string n2)) g ⟨3, nm, ⟨#[]⟩, n2⟩ := S3.set 3 (.string n2) ⟨3, nm, ⟨#[]⟩, n2⟩ rfl ⟨S3.small.1, S3.small.2.1, hn3⟩
    revert S4
    generalize wb.setCell ⟨g, 3, none⟩ (.string n2) = wc
    intro S4
    clear fz k0 k1 k2 k3 S3
    go_wp2_with fail
    refine (l01Below_any B c 40 _ S4.cur (by omega) (by omega)).mono ?_
    rintro e wy ⟨y, hy, rfl, hcy, hgy⟩
    have Sy := S4.call hcy hgy
    clear S4 hcy hgy
    have hy5 : y = 0 ∨ y = 1 ∨ y = 2 ∨ y = 3 ∨ 4 ≤ y := by omega
    rcases hy5 with rfl | rfl | rfl | rfl | hy4
    · go_wp2_with fail
      have Sa := Sy.alloc (.cells #[.int .i64 0, .int .i64 5] 3)
      refine (l01PickInt_any B c wy.heap.size 2 2 _ Sa.cur (by omega) (by omega) (by have := Sy.cur.lt; omega) (by simp) (fun j hj => ?_)).mono ?_
      · match j, hj with
          | 0, _ => exact ⟨_, by omega, by omega, cell_of_row _ _ 0 _ _ (0, 0) (heap_alloc_new _ _)⟩
          | 1, _ => exact ⟨_, by omega, by omega, cell_of_row _ _ 1 _ _ (0, 0) (heap_alloc_new _ _)⟩
      rintro e wp ⟨z, hz1, hz2, rfl, hcz, hgz⟩
      have Sp := Sa.call hcz hgz
      clear Sa Sy hcz hgz
      have fz := Sp.frozen 0
      obtain ⟨k0, k1, k2, k3⟩ := Sp.cells
      go_upto_region 16 with fail
      have Sz : AS B c w (wp.setCell ⟨g, 0, none⟩ (.int .i64 z)) g ⟨z, nm, ⟨#[]⟩, n2⟩ := Sp.set 0 (.int .i64 z) ⟨z, nm, ⟨#[]⟩, n2⟩ rfl Sp.small
      revert Sz
      generalize wp.setCell ⟨g, 0, none⟩ (.int .i64 z) = wz
      intro Sz
      clear fz k0 k1 k2 k3 Sp
      have hsm := Sz.small
      obtain ⟨k0, k1, k2, k3⟩ := Sz.cells
      obtain ⟨r0, r1, r2, r3⟩ := Sz.rcells
      have rf0 := Sz.rfrozen 0
      have rf1 := Sz.rfrozen 1
      have rf2 := Sz.rfrozen 2
      have rf3 := Sz.rfrozen 3
      have hfin := Sz.fin (.int .i64 z) (.string nm) (.string ⟨#[]⟩) (.string n2)
      go_wp2
      revert hfin
      generalize ((((wz.setCell ⟨w.heap.size, 0, none⟩ (.int .i64 z)).setCell ⟨w.heap.size, 1, none⟩ (.string nm)).setCell ⟨w.heap.size, 2, none⟩ (.string ⟨#[]⟩)).setCell ⟨w.heap.size, 3, none⟩ (.string n2)) = wf
      rintro ⟨hf1, hf2, hf3⟩
      clear k0 k1 k2 k3 r0 r1 r2 r3 rf0 rf1 rf2 rf3 Sz
      obtain ⟨r0, r1, r2, r3⟩ := row_cell4 hf1
      refine bodyPost_ret (by simp [results, Try.results36, go_sem, r0, r1, r2, r3]; try rfl) rfl ?_
      exact ⟨⟨z, nm, ⟨#[]⟩, n2⟩, hsm, rfl, hf2, hf3⟩
    · go_wp2_with fail
      have Sa := Sy.alloc (.cells #[.string ⟨#[]⟩, .string ⟨#[49, 50, 51, 52, 53, 54, 55, 56, 57]⟩, .string ⟨#[110, 101, 119]⟩] 9)
      refine (l01Pick_any (fun z => z.size ≤ 9) B c wy.heap.size 3 3 _ Sa.cur (by omega) (by omega) (by have := Sy.cur.lt; omega) (by simp) (fun j hj => ?_)).mono ?_
      · match j, hj with
          | 0, _ => exact ⟨_, by decide, cell_of_row _ _ 0 _ _ (0, 0) (heap_alloc_new _ _)⟩
          | 1, _ => exact ⟨_, by decide, cell_of_row _ _ 1 _ _ (0, 0) (heap_alloc_new _ _)⟩
          | 2, _ => exact ⟨_, by decide, cell_of_row _ _ 2 _ _ (0, 0) (heap_alloc_new _ _)⟩
      rintro e wp ⟨z, hz1, rfl, hcz, hgz⟩
      have hz2 : z.size ≤ 1048576 := Nat.le_trans hz1 (by omega)
      have Sp := Sa.call hcz hgz
      clear Sa Sy hcz hgz hz1
      have fz := Sp.frozen 1
      obtain ⟨k0, k1, k2, k3⟩ := Sp.cells
      go_upto_region 16 with fail
      have Sz : AS B c w (wp.setCell ⟨g, 1, none⟩ (.string z)) g ⟨3, z, ⟨#[]⟩, n2⟩ := Sp.set 1 (.string z) ⟨3, z, ⟨#[]⟩, n2⟩ rfl ⟨hz2, Sp.small.2⟩
      revert Sz
      generalize wp.setCell ⟨g, 1, none⟩ (.string z) = wz
      intro Sz
      clear fz k0 k1 k2 k3 Sp
      have hsm := Sz.small
      obtain ⟨k0, k1, k2, k3⟩ := Sz.cells
      obtain ⟨r0, r1, r2, r3⟩ := Sz.rcells
      have rf0 := Sz.rfrozen 0
      have rf1 := Sz.rfrozen 1
      have rf2 := Sz.rfrozen 2
      have rf3 := Sz.rfrozen 3
      have hfin := Sz.fin (.int .i64 3) (.string z) (.string ⟨#[]⟩) (.string n2)
      go_wp2
      revert hfin
      generalize ((((wz.setCell ⟨w.heap.size, 0, none⟩ (.int .i64 3)).setCell ⟨w.heap.size, 1, none⟩ (.string z)).setCell ⟨w.heap.size, 2, none⟩ (.string ⟨#[]⟩)).setCell ⟨w.heap.size, 3, none⟩ (.string n2)) = wf
      rintro ⟨hf1, hf2, hf3⟩
      clear k0 k1 k2 k3 r0 r1 r2 r3 rf0 rf1 rf2 rf3 Sz
      obtain ⟨r0, r1, r2, r3⟩ := row_cell4 hf1
      refine bodyPost_ret (by simp [results, Try.results36, go_sem, r0, r1, r2, r3]; try rfl) rfl ?_
      exact ⟨⟨3, z, ⟨#[]⟩, n2⟩, hsm, rfl, hf2, hf3⟩
    · have fz := Sy.frozen 3
      obtain ⟨k0, k1, k2, k3⟩ := Sy.cells
      go_upto_region 16 with fail
      have Sz : AS B c w (wy.setCell ⟨g, 3, none⟩ (.string ⟨#[120]⟩)) g ⟨3, nm, ⟨#[]⟩, ⟨#[120]⟩⟩ := Sy.set 3 (.string ⟨#[120]⟩) ⟨3, nm, ⟨#[]⟩, ⟨#[120]⟩⟩ rfl ⟨Sy.small.1, Sy.small.2.1, by show (1 : Nat) ≤ 1048576; omega⟩
      revert Sz
      generalize wy.setCell ⟨g, 3, none⟩ (.string ⟨#[120]⟩) = wz
      intro Sz
      clear fz k0 k1 k2 k3 Sy
      have hsm := Sz.small
      obtain ⟨k0, k1, k2, k3⟩ := Sz.cells
      obtain ⟨r0, r1, r2, r3⟩ := Sz.rcells
      have rf0 := Sz.rfrozen 0
      have rf1 := Sz.rfrozen 1
      have rf2 := Sz.rfrozen 2
      have rf3 := Sz.rfrozen 3
      have hfin := Sz.fin (.int .i64 3) (.string nm) (.string ⟨#[]⟩) (.string ⟨#[120]⟩)
      go_wp2
      revert hfin
      generalize ((((wz.setCell ⟨w.heap.size, 0, none⟩ (.int .i64 3)).setCell ⟨w.heap.size, 1, none⟩ (.string nm)).setCell ⟨w.heap.size, 2, none⟩ (.string ⟨#[]⟩)).setCell ⟨w.heap.size, 3, none⟩ (.string ⟨#[120]⟩)) = wf
      rintro ⟨hf1, hf2, hf3⟩
      clear k0 k1 k2 k3 r0 r1 r2 r3 rf0 rf1 rf2 rf3 Sz
      obtain ⟨r0, r1, r2, r3⟩ := row_cell4 hf1
      refine bodyPost_ret (by simp [results, Try.results36, go_sem, r0, r1, r2, r3]; try rfl) rfl ?_
      exact ⟨⟨3, nm, ⟨#[]⟩, ⟨#[120]⟩⟩, hsm, rfl, hf2, hf3⟩
    · have fz := Sy.frozen 2
      obtain ⟨k0, k1, k2, k3⟩ := Sy.cells
      go_upto_region 16 with fail
      have Sz : AS B c w (wy.setCell ⟨g, 2, none⟩ (.string ⟨#[120]⟩)) g ⟨3, nm, ⟨#[120]⟩, n2⟩ := Sy.set 2 (.string ⟨#[120]⟩) ⟨3, nm, ⟨#[120]⟩, n2⟩ rfl ⟨Sy.small.1, by show (1 : Nat) ≤ 1048576; omega, Sy.small.2.2⟩
      revert Sz
      generalize wy.setCell ⟨g, 2, none⟩ (.string ⟨#[120]⟩) = wz
      intro Sz
      clear fz k0 k1 k2 k3 Sy
      have hsm := Sz.small
      obtain ⟨k0, k1, k2, k3⟩ := Sz.cells
      obtain ⟨r0, r1, r2, r3⟩ := Sz.rcells
      have rf0 := Sz.rfrozen 0
      have rf1 := Sz.rfrozen 1
      have rf2 := Sz.rfrozen 2
      have rf3 := Sz.rfrozen 3
      have hfin := Sz.fin (.int .i64 3) (.string nm) (.string ⟨#[120]⟩) (.string n2)
      go_wp2
      revert hfin
      generalize ((((wz.setCell ⟨w.heap.size, 0, none⟩ (.int .i64 3)).setCell ⟨w.heap.size, 1, none⟩ (.string nm)).setCell ⟨w.heap.size, 2, none⟩ (.string ⟨#[120]⟩)).setCell ⟨w.heap.size, 3, none⟩ (.string n2)) = wf
      rintro ⟨hf1, hf2, hf3⟩
      clear k0 k1 k2 k3 r0 r1 r2 r3 rf0 rf1 rf2 rf3 Sz
      obtain ⟨r0, r1, r2, r3⟩ := row_cell4 hf1
      refine bodyPost_ret (by simp [results, Try.results36, go_sem, r0, r1, r2, r3]; try rfl) rfl ?_
      exact ⟨⟨3, nm, ⟨#[120]⟩, n2⟩, hsm, rfl, hf2, hf3⟩
    · go_upto_region 16 with fail
      have hsm := Sy.small
      obtain ⟨k0, k1, k2, k3⟩ := Sy.cells
      obtain ⟨r0, r1, r2, r3⟩ := Sy.rcells
      have rf0 := Sy.rfrozen 0
      have rf1 := Sy.rfrozen 1
      have rf2 := Sy.rfrozen 2
      have rf3 := Sy.rfrozen 3
      have hfin := Sy.fin (.int .i64 3) (.string nm) (.string ⟨#[]⟩) (.string n2)
      go_wp2
      revert hfin
      generalize ((((wy.setCell ⟨w.heap.size, 0, none⟩ (.int .i64 3)).setCell ⟨w.heap.size, 1, none⟩ (.string nm)).setCell ⟨w.heap.size, 2, none⟩ (.string ⟨#[]⟩)).setCell ⟨w.heap.size, 3, none⟩ (.string n2)) = wf
      rintro ⟨hf1, hf2, hf3⟩
      clear k0 k1 k2 k3 r0 r1 r2 r3 rf0 rf1 rf2 rf3 Sy
      obtain ⟨r0, r1, r2, r3⟩ := row_cell4 hf1
      refine bodyPost_ret (by simp [results, Try.results36, go_sem, r0, r1, r2, r3]; try rfl) rfl ?_
      exact ⟨⟨3, nm, ⟨#[]⟩, n2⟩, hsm, rfl, hf2, hf3⟩
  · go_upto_region 7 with fail
    clear k0 k1 k2 k3
    go_wp2_with fail
    refine (l01Below_any B c 40 _ S0.cur (by omega) (by omega)).mono ?_
    rintro e wy ⟨y, hy, rfl, hcy, hgy⟩
    have Sy := S0.call hcy hgy
    clear S0 hcy hgy
    have hy5 : y = 0 ∨ y = 1 ∨ y = 2 ∨ y = 3 ∨ 4 ≤ y := by omega
    rcases hy5 with rfl | rfl | rfl | rfl | hy4
    · go_wp2_with fail
      have Sa := Sy.alloc (.cells #[.int .i64 0, .int .i64 5] 3)
      refine (l01PickInt_any B c wy.heap.size 2 2 _ Sa.cur (by omega) (by omega) (by have := Sy.cur.lt; omega) (by simp) (fun j hj => ?_)).mono ?_
      · match j, hj with
          | 0, _ => exact ⟨_, by omega, by omega, cell_of_row _ _ 0 _ _ (0, 0) (heap_alloc_new _ _)⟩
          | 1, _ => exact ⟨_, by omega, by omega, cell_of_row _ _ 1 _ _ (0, 0) (heap_alloc_new _ _)⟩
      rintro e wp ⟨z, hz1, hz2, rfl, hcz, hgz⟩
      have Sp := Sa.call hcz hgz
      clear Sa Sy hcz hgz
      have fz := Sp.frozen 0
      obtain ⟨k0, k1, k2, k3⟩ := Sp.cells
      go_upto_region 16 with fail
      have Sz : AS B c w (wp.setCell ⟨g, 0, none⟩ (.int .i64 z)) g ⟨z, nm, ⟨#[]⟩, ⟨#[]⟩⟩ := Sp.set 0 (.int .i64 z) ⟨z, nm, ⟨#[]⟩, ⟨#[]⟩⟩ rfl Sp.small
      revert Sz
      generalize wp.setCell ⟨g, 0, none⟩ (.int .i64 z) = wz
      intro Sz
      clear fz k0 k1 k2 k3 Sp
      have hsm := Sz.small
      obtain ⟨k0, k1, k2, k3⟩ := Sz.cells
      obtain ⟨r0, r1, r2, r3⟩ := Sz.rcells
      have rf0 := Sz.rfrozen 0
      have rf1 := Sz.rfrozen 1
      have rf2 := Sz.rfrozen 2
      have rf3 := Sz.rfrozen 3
      have hfin := Sz.fin (.int .i64 z) (.string nm) (.string ⟨#[]⟩) (.string ⟨#[]⟩)
      go_wp2
      revert hfin
      generalize ((((wz.setCell ⟨w.heap.size, 0, none⟩ (.int .i64 z)).setCell ⟨w.heap.size, 1, none⟩ (.string nm)).setCell ⟨w.heap.size, 2, none⟩ (.string ⟨#[]⟩)).setCell ⟨w.heap.size, 3, none⟩ (.string ⟨#[]⟩)) = wf
      rintro ⟨hf1, hf2, hf3⟩
      clear k0 k1 k2 k3 r0 r1 r2 r3 rf0 rf1 rf2 rf3 Sz
      obtain ⟨r0, r1, r2, r3⟩ := row_cell4 hf1
      refine bodyPost_ret (by simp [results, Try.results36, go_sem, r0, r1, r2, r3]; try rfl) rfl ?_
      exact ⟨⟨z, nm, ⟨#[]⟩, ⟨#[]⟩⟩, hsm, rfl, hf2, hf3⟩
    · go_wp2_with fail
      have Sa := Sy.alloc (.cells #[.string ⟨#[]⟩, .string ⟨#[49, 50, 51, 52, 53, 54, 55, 56, 57]⟩, .string ⟨#[110, 101, 119]⟩] 9)
      refine (l01Pick_any (fun z => z.size ≤ 9) B c wy.heap.size 3 3 _ Sa.cur (by omega) (by omega) (by have := Sy.cur.lt; omega) (by simp) (fun j hj => ?_)).mono ?_
      · match j, hj with
          | 0, _ => exact ⟨_, by decide, cell_of_row _ _ 0 _ _ (0, 0) (heap_alloc_new _ _)⟩
          | 1, _ => exact ⟨_, by decide, cell_of_row _ _ 1 _ _ (0, 0) (heap_alloc_new _ _)⟩
          | 2, _ => exact ⟨_, by decide, cell_of_row _ _ 2 _ _ (0, 0) (heap_alloc_new _ _)⟩
      rintro e wp ⟨z, hz1, rfl, hcz, hgz⟩
      have hz2 : z.size ≤ 1048576 := Nat.le_trans hz1 (by omega)
      have Sp := Sa.call hcz hgz
      clear Sa Sy hcz hgz hz1
      have fz := Sp.frozen 1
      obtain ⟨k0, k1, k2, k3⟩ := Sp.cells
      go_upto_region 16 with fail
      have Sz : AS B c w (wp.setCell ⟨g, 1, none⟩ (.string z)) g ⟨(1 + (x : Int)), z, ⟨#[]⟩, ⟨#[]⟩⟩ := Sp.set 1 (.string z) ⟨(1 + (x : Int)), z, ⟨#[]⟩, ⟨#[]⟩⟩ rfl ⟨hz2, Sp.small.2⟩
      revert Sz
      generalize wp.setCell ⟨g, 1, none⟩ (.string z) = wz
      intro Sz
      clear fz k0 k1 k2 k3 Sp
      have hsm := Sz.small
      obtain ⟨k0, k1, k2, k3⟩ := Sz.cells
      obtain ⟨r0, r1, r2, r3⟩ := Sz.rcells
      have rf0 := Sz.rfrozen 0
      have rf1 := Sz.rfrozen 1
      have rf2 := Sz.rfrozen 2
      have rf3 := Sz.rfrozen 3
      have hfin := Sz.fin (.int .i64 (1 + (x : Int))) (.string z) (.string ⟨#[]⟩) (.string ⟨#[]⟩)
      go_wp2
      revert hfin
      generalize ((((wz.setCell ⟨w.heap.size, 0, none⟩ (.int .i64 (1 + (x : Int)))).setCell ⟨w.heap.size, 1, none⟩ (.string z)).setCell ⟨w.heap.size, 2, none⟩ (.string ⟨#[]⟩)).setCell ⟨w.heap.size, 3, none⟩ (.string ⟨#[]⟩)) = wf
      rintro ⟨hf1, hf2, hf3⟩
      clear k0 k1 k2 k3 r0 r1 r2 r3 rf0 rf1 rf2 rf3 Sz
      obtain ⟨r0, r1, r2, r3⟩ := row_cell4 hf1
      refine bodyPost_ret (by simp [results, Try.results36, go_sem, r0, r1, r2, r3]; try rfl) rfl ?_
      exact ⟨⟨(1 + (x : Int)), z, ⟨#[]⟩, ⟨#[]⟩⟩, hsm, rfl, hf2, hf3⟩
    · have fz := Sy.frozen 3
      obtain ⟨k0, k1, k2, k3⟩ := Sy.cells
      go_upto_region 16 with fail
      have Sz : AS B c w (wy.setCell ⟨g, 3, none⟩ (.string ⟨#[120]⟩)) g ⟨(1 + (x : Int)), nm, ⟨#[]⟩, ⟨#[120]⟩⟩ := Sy.set 3 (.string ⟨#[120]⟩) ⟨(1 + (x : Int)), nm, ⟨#[]⟩, ⟨#[120]⟩⟩ rfl ⟨Sy.small.1, Sy.small.2.1, by show (1 : Nat) ≤ 1048576; omega⟩
      revert Sz
      generalize wy.setCell ⟨g, 3, none⟩ (.string ⟨#[120]⟩) = wz
      intro Sz
      clear fz k0 k1 k2 k3 Sy
      have hsm := Sz.small
      obtain ⟨k0, k1, k2, k3⟩ := Sz.cells
      obtain ⟨r0, r1, r2, r3⟩ := Sz.rcells
      have rf0 := Sz.rfrozen 0
      have rf1 := Sz.rfrozen 1
      have rf2 := Sz.rfrozen 2
      have rf3 := Sz.rfrozen 3
      have hfin := Sz.fin (.int .i64 (1 + (x : Int))) (.string nm) (.string ⟨#[]⟩) (.string ⟨#[120]⟩)
      go_wp2
      revert hfin
      generalize ((((wz.setCell ⟨w.heap.size, 0, none⟩ (.int .i64 (1 + (x : Int)))).setCell ⟨w.heap.size, 1, none⟩ (.string nm)).setCell ⟨w.heap.size, 2, none⟩ (.string ⟨#[]⟩)).setCell ⟨w.heap.size, 3, none⟩ (.string ⟨#[120]⟩)) = wf
      rintro ⟨hf1, hf2, hf3⟩
      clear k0 k1 k2 k3 r0 r1 r2 r3 rf0 rf1 rf2 rf3 Sz
      obtain ⟨r0, r1, r2, r3⟩ := row_cell4 hf1
      refine bodyPost_ret (by simp [results, Try.results36, go_sem, r0, r1, r2, r3]; try rfl) rfl ?_
      exact ⟨⟨(1 + (x : Int)), nm, ⟨#[]⟩, ⟨#[120]⟩⟩, hsm, rfl, hf2, hf3⟩
    · have fz := Sy.frozen 2
      obtain ⟨k0, k1, k2, k3⟩ := Sy.cells
      go_upto_region 16 with fail
      have Sz : AS B c w (wy.setCell ⟨g, 2, none⟩ (.string ⟨#[120]⟩)) g ⟨(1 + (x : Int)), nm, ⟨#[120]⟩, ⟨#[]⟩⟩ := Sy.set 2 (.string ⟨#[120]⟩) ⟨(1 + (x : Int)), nm, ⟨#[120]⟩, ⟨#[]⟩⟩ rfl ⟨Sy.small.1, by show (1 : Nat) ≤ 1048576; omega, Sy.small.2.2⟩
      revert Sz
      generalize wy.setCell ⟨g, 2, none⟩ (.string ⟨#[120]⟩) = wz
      intro Sz
      clear fz k0 k1 k2 k3 Sy
      have hsm := Sz.small
      obtain ⟨k0, k1, k2, k3⟩ := Sz.cells
      obtain ⟨r0, r1, r2, r3⟩ := Sz.rcells
      have rf0 := Sz.rfrozen 0
      have rf1 := Sz.rfrozen 1
      have rf2 := Sz.rfrozen 2
      have rf3 := Sz.rfrozen 3
      have hfin := Sz.fin (.int .i64 (1 + (x : Int))) (.string nm) (.string ⟨#[120]⟩) (.string ⟨#[]⟩)
      go_wp2
      revert hfin
      generalize ((((wz.setCell ⟨w.heap.size, 0, none⟩ (.int .i64 (1 + (x : Int)))).setCell ⟨w.heap.size, 1, none⟩ (.string nm)).setCell ⟨w.heap.size, 2, none⟩ (.string ⟨#[120]⟩)).setCell ⟨w.heap.size, 3, none⟩ (.string ⟨#[]⟩)) = wf
      rintro ⟨hf1, hf2, hf3⟩
      clear k0 k1 k2 k3 r0 r1 r2 r3 rf0 rf1 rf2 rf3 Sz
      obtain ⟨r0, r1, r2, r3⟩ := row_cell4 hf1
      refine bodyPost_ret (by simp [results, Try.results36, go_sem, r0, r1, r2, r3]; try rfl) rfl ?_
      exact ⟨⟨(1 + (x : Int)), nm, ⟨#[120]⟩, ⟨#[]⟩⟩, hsm, rfl, hf2, hf3⟩
    · go_upto_region 16 with fail
      have hsm := Sy.small
      obtain ⟨k0, k1, k2, k3⟩ := Sy.cells
      obtain ⟨r0, r1, r2, r3⟩ := Sy.rcells
      have rf0 := Sy.rfrozen 0
      have rf1 := Sy.rfrozen 1
      have rf2 := Sy.rfrozen 2
      have rf3 := Sy.rfrozen 3
      have hfin := Sy.fin (.int .i64 (1 + (x : Int))) (.string nm) (.string ⟨#[]⟩) (.string ⟨#[]⟩)
      go_wp2
      revert hfin
      generalize ((((wy.setCell ⟨w.heap.size, 0, none⟩ (.int .i64 (1 + (x : Int)))).setCell ⟨w.heap.size, 1, none⟩ (.string nm)).setCell ⟨w.heap.size, 2, none⟩ (.string ⟨#[]⟩)).setCell ⟨w.heap.size, 3, none⟩ (.string ⟨#[]⟩)) = wf
      rintro ⟨hf1, hf2, hf3⟩
      clear k0 k1 k2 k3 r0 r1 r2 r3 rf0 rf1 rf2 rf3 Sy
      obtain ⟨r0, r1, r2, r3⟩ := row_cell4 hf1
      refine bodyPost_ret (by simp [results, Try.results36, go_sem, r0, r1, r2, r3]; try rfl) rfl ?_
      exact ⟨⟨(1 + (x : Int)), nm, ⟨#[]⟩, ⟨#[]⟩⟩, hsm, rfl, hf2, hf3⟩
end Go.Proofs.Ytnlcknklghalkaa

/- The draws of the laws: acts, one behind the other. -/
namespace Go.Proofs.Ytnlcknklghalkaa
open Go.RowKit
open Plain
set_option linter.unusedVariables false
set_option linter.unusedSimpArgs false

theorem doneL_small (l : List Fl) (a : Ac) : SmallF 1048576 ((doneL l a).getD []) := by
  cases h : doneL l a with
  | none => exact ⟨Nat.zero_le _, fun f hf => by cases hf⟩
  | some l' =>
    have hdr := diskB_iff.1 (doneL_right h)
    refine ⟨by have := hdr.1; show l'.length ≤ _; omega, fun f hf => ?_⟩
    obtain ⟨p1, p2, _, _⟩ := fileB_parts ((DiskR_iff.1 hdr).2.1 f hf)
    refine ⟨?_, by omega⟩
    simp [nameB] at p1; omega

theorem cur_type {B c : Nat} {w : World} (h : Cur B w c) : ∃ cs, w.heap[c]? = some (.cells cs 60 (0, 0)) := by
  obtain ⟨a, len, cap, i, hh, h1, h2, h3, h4⟩ := h
  exact ⟨_, h4⟩
/-- A row of another type than the cursor's stays when the cursor is written. -/
theorem own_cur {B B' c n m : Nat} {e : TypeId} {w w' : World} {v : Value} {xs : List Value} (h : w.ownsRow B e m v n xs) (hc : Cur B' w c) (he : 60 ≠ e) (hg : w.grownBy w' (some c)) : w'.ownsRow B e m v n xs := by
  obtain ⟨cs, hcs⟩ := cur_type hc
  refine ⟨h.1, ?_⟩
  rcases h.2 with h3 | ⟨g, cap, cur, hv, hB, hh, h4⟩
  · exact .inl h3
  · refine .inr ⟨g, cap, cur, hv, hB, (hg.block g (row_lt hh) fun eq => ?_).trans hh, h4⟩
    cases eq
    rw [hcs] at hh
    cases hh
    exact he rfl
/-- A row of another type stays when a row is written. -/
theorem own_other {B B' n n' m m' : Nat} {e e' : TypeId} {w w' : World} {v u : Value} {xs ys : List Value} (h : w.ownsRow B e m v n xs) (hu : w.ownsRow B' e' m' u n' ys) (he : e' ≠ e) (hg : w.grownBy w' u.ownBlock) : w'.ownsRow B e m v n xs := by
  refine ⟨h.1, ?_⟩
  rcases h.2 with h3 | ⟨g, cap, cur, hv, hB, hh, h4⟩
  · exact .inl h3
  · refine .inr ⟨g, cap, cur, hv, hB, row_aside hh hu (fun q => he q.symm) hg, h4⟩

theorem box_cur {B c b : Nat} {w w' : World} {cs : Array Value} {t : TypeId} (h : w.heap[b]? = some (.cells cs t (0, 0))) (hc : Cur B w c) (ht : 60 ≠ t) (hg : w.grownBy w' (some c)) : w'.heap[b]? = some (.cells cs t (0, 0)) := by
  obtain ⟨ds, hds⟩ := cur_type hc
  refine (hg.block b (row_lt h) fun eq => ?_).trans h
  cases eq
  rw [hds] at h
  cases h
  exact ht rfl
theorem one4A (x : Int) (y z t : ByteArray) : ∀ u ∈ ([.int .i64 x, .string y, .string z, .string t] : List Value), u.oneCell' = true := by
  intro u hu
  simp at hu
  rcases hu with rfl | rfl | rfl | rfl <;> rfl
theorem news_act {w : World} (x y z t : Value) : ∀ j u, ([x, y, z, t] : List Value)[j]? = some u → (w.alloc (.cells #[x, y, z, t] 37)).cell? ((⟨w.heap.size, 0, none⟩ : Addr).add j) = some u := by
  intro j u hj
  match j, hj with
  | 0, hj => simp at hj; subst hj; simp [Addr.add]
  | 1, hj => simp at hj; subst hj; simp [Addr.add]
  | 2, hj => simp at hj; subst hj; simp [Addr.add]
  | 3, hj => simp at hj; subst hj; simp [Addr.add]

/-- The draw of acts under way: their row, the disk's box, the cursor. -/
structure LS (B c : Nat) (w W : World) (u vd : Value) (la : List Ac) (ld : List Fl) : Prop where
  own : OwnA (w.heap.size + 1) W u la
  box : W.heap[w.heap.size]? = some (.cells #[vd] 26 (0, 0))
  disk : OwnF 0 W vd ld
  small : SmallF 1048576 ld
  cur : Cur B W c
  grown : w.grownBy W (some c)
  ltc : c < w.heap.size
namespace LS
variable {B c : Nat} {w W W' : World} {u vd : Value} {la : List Ac} {ld : List Fl}
theorem call (h : LS B c w W u vd la ld) (hc : Cur B W' c) (hg : W.grownBy W' (some c)) : LS B c w W' u vd la ld :=
  ⟨own_cur h.own h.cur (by decide) hg, (hg.block _ (row_lt h.box) (fun e => by have := h.ltc; cases e; omega)).trans h.box, own_cur h.disk h.cur (by decide) hg, h.small, hc, h.grown.trans hg, h.ltc⟩
theorem up (h : LS B c w W u vd la ld) (hb : Below W.heap.size W W') : LS B c w W' u vd la ld :=
  have hg : ∀ r, W.grownBy W' r := fun r => ⟨hb.os, hb.tape, hb.output, hb.size, fun k hk _ => hb.block k hk⟩
  ⟨own_stays h.own hb, row_up h.box hb, own_stays h.disk hb, h.small, h.cur.kept (hg none) (fun k hk => by cases hk), h.grown.trans (hg _), h.ltc⟩
theorem app (h : LS B c w W u vd la ld) {u' : Value} {la' : List Ac} (hu : OwnA (w.heap.size + 1) W' u' la') (hg : W.grownBy W' u.ownBlock) : LS B c w W' u' vd la' ld :=
  have h0 := h.ltc
  ⟨hu, row_aside h.box h.own (by decide) hg, own_other h.disk h.own (by decide) hg, h.small, h.cur.kept hg (fun k hk => by have := (h.own.lt k hk).1; omega), h.grown.andThen hg (fun j hj => .inl (by have := (h.own.lt j hj).1; omega)), h0⟩
theorem setd (h : LS B c w W u vd la ld) {vx : Value} {lx : List Fl} (hx : OwnF 0 W vx lx) (hs : SmallF 1048576 lx) : LS B c w (W.setCell ⟨w.heap.size, 0, none⟩ vx) u vx la lx :=
  have h0 := h.ltc
  ⟨own_set h.own h.box (by decide), set1 vx h.box, own_set hx h.box (by decide), hs, h.cur.kept (grown_set W ⟨w.heap.size, 0, none⟩ vx) (fun k hk => by cases hk; exact h0), h.grown.andThen (grown_set W ⟨w.heap.size, 0, none⟩ vx) (fun j hj => by cases hj; exact .inl (Nat.le_refl _)), h0⟩
end LS

theorem acs_append (l m : List Ac) : acs (l ++ m) = acs l ++ acs m := by simp [acs]

set_option maxHeartbeats 4000000 in
set_option maxRecDepth 100000 in
theorem l03Acts_any (B c B2 : Nat) (l : List Fl) (v : Value) (w : World) (hc : Cur B w c) (hs : SmallF 1048576 l) (h : OwnF B2 w v l) :
    Calls Try.prog 15 #[.pointer (some ⟨c, 0, none⟩), .agg #[v]] w fun e w' => ∃ (u : Value) (la : List Ac), la.length ≤ 9 ∧ (∀ a ∈ la, SmallA 1048576 a) ∧ e = .returned u ∧ OwnA w.heap.size w' u la ∧ Cur B w' c ∧ w.grownBy w' (some c) := by
  obtain ⟨i0, hi, hz0, hz1, hz2⟩ := info_parts Try.infoAct
  obtain ⟨va, vc, rfl, hcell⟩ := h.shape
  clear hcell
  have hlt := hc.lt
  have L0 : LS B c w ((w.alloc (.cells #[.slice va l.length vc] 26 (0, 0))).alloc (.cells #[] 37 (0, 0))) (.slice (some ⟨w.heap.size + 1, 0, none⟩) 0 0) (.slice va l.length vc) [] l :=
    have hb := ((Below.refl w.heap.size w).alloc (Nat.le_refl _) (.cells #[.slice va l.length vc] 26)).alloc (by simp) (.cells #[] 37)
    ⟨by
      have := World.ownsRow_lit (w.alloc (.cells #[.slice va l.length vc] 26 (0, 0))) (e := 37) (size := 4) (base := w.heap.size + 1) #[] 0 (by simp) (Nat.zero_le _) rfl
      simpa [OwnA, acs] using this,
     by rw [Below.heap_alloc _ _ _ (by simp)]; exact heap_alloc_new _ _, own_based (own_stays h hb) (Nat.zero_le _), hs, hc.kept ((World.grownBy_alloc _ _ none).trans (World.grownBy_alloc _ _ none)) (fun k hk => by cases hk), (World.grownBy_alloc _ _ _).trans (World.grownBy_alloc _ _ _), hlt.2⟩
  have HL0 := hide L0
  clear hc h hs L0
  go_enter Try.func15, Try.ntmps15
  go_wp2
  go_loopw [5, 6] (fun u i wr => ∃ (la : List Ac) (vd : Value) (ld : List Fl) (k : Nat), la.length ≤ k ∧ k ≤ 9 ∧ (∀ a ∈ la, SmallA 1048576 a) ∧ i = .int .i64 (k : Int) ∧ LS B c w wr u vd la ld)
    (fun _ i _ => 9 - (intOf i).toNat)
  case atStart => exact ⟨[], _, l, 0, Nat.le_refl _, Nat.zero_le _, (fun a ha => by cases ha), rfl, unhide HL0⟩
  case round =>
    obtain ⟨la, vd, ld, k, hk1, hk, hall, rfl, S0⟩ := hrel
    have HA := hide hall
    have HK := hide hk1
    clear HL0 hall hk1
    go_wp2_with fail
    refine (l01Below_any B c 9 _ S0.cur (by omega) (by omega)).mono ?_
    rintro e w1 ⟨x, hx, rfl, hc1, hg1⟩
    have S1 := S0.call hc1 hg1
    clear S0 hc1 hg1
    by_cases hkx : k < x
    · go_wp2_with fail
      refine (l03Act_any B c _ S1.cur).mono ?_
      rintro e w2 ⟨a, ha, rfl, hc2, hg2⟩
      have S2 := S1.call hc2 hg2
      clear S1 hc2 hg2
      obtain ⟨kd, nm, tx, tt⟩ := a
      simp only [ac]
      go_upto_region 6 with fail
      have S3 := S2.up ((Below.refl w2.heap.size w2).alloc (Nat.le_refl _) (.cells #[.int .i64 kd, .string nm, .string tx, .string tt] 37))
      have hx7 : (w2.alloc (.cells #[.int .i64 kd, .string nm, .string tx, .string tt] 37)).heap[w2.heap.size]? = some (.cells #[.int .i64 kd, .string nm, .string tx, .string tt] 37 (0, 0)) := heap_alloc_new _ _
      revert S3 hx7
      generalize w2.alloc (.cells #[.int .i64 kd, .string nm, .string tx, .string tt] 37) = wq
      generalize w2.heap.size = b7
      intro S3 hx7
      clear S2
      obtain ⟨d, hd⟩ : ∃ d, d = (doneL ld ⟨kd, nm, tx, tt⟩).isSome := ⟨_, rfl⟩
      obtain ⟨ans, hans⟩ : ∃ r, r = (doneL ld ⟨kd, nm, tx, tt⟩).getD [] := ⟨_, rfl⟩
      have HSM : SmallF 1048576 ans := by rw [hans]; exact doneL_small _ _
      have CS0 := fun wx h => spec_DoAct_any ld ⟨kd, nm, tx, tt⟩ vd 0 wx S3.small ha h
      rw [← hd, ← hans] at CS0
      have CS := hide CS0
      clear CS0 hd hans
      have HSA := hide ha
      clear ha
      have bv3 := row_cell S3.box
      obtain ⟨c0, c1, c2, c3⟩ := row_cell4 hx7
      have HX7 := hide hx7
      have HOW := hide S3.disk
      have HS3 := hide S3
      clear S3 hx7
      go_wp2_with fail
      refine (unhide CS wq (unhide HOW)).mono ?_
      rintro e w3 ⟨vx, rfl, hownx, hb3⟩
      obtain ⟨xa, xn, xc, rfl⟩ := own_shape hownx
      have S4 := (unhide HS3).up hb3
      have hx7 := row_up (unhide HX7) hb3
      clear HS3 HX7 HOW bv3 c0 c1 c2 c3 CS hb3
      go_upto_region 7 with fail
      have S5 := S4.up ((Below.refl w3.heap.size w3).alloc (Nat.le_refl _) (.cells #[(.slice xa xn xc)] 26))
      have hx7' := row_up hx7 ((Below.refl w3.heap.size w3).alloc (Nat.le_refl _) (.cells #[(.slice xa xn xc)] 26))
      have hx8 : (w3.alloc (.cells #[(.slice xa xn xc)] 26)).heap[w3.heap.size]? = some (.cells #[(.slice xa xn xc)] 26 (0, 0)) := heap_alloc_new _ _
      have hdk : OwnF 0 (w3.alloc (.cells #[(.slice xa xn xc)] 26)) (.slice xa xn xc) ans := own_based (own_stays hownx ((Below.refl w3.heap.size w3).alloc (Nat.le_refl _) (.cells #[(.slice xa xn xc)] 26))) (Nat.zero_le _)
      clear S4 hx7 hownx
      revert S5 hx7' hx8 hdk
      generalize w3.alloc (.cells #[(.slice xa xn xc)] 26) = w4
      generalize w3.heap.size = b8
      intro S5 hx7 hx8 hdk
      have hxc := S5.cur
      cases d
      · go_wp2_with fail
        refine (l01Once_any B c 20 _ S5.cur (by omega) (by omega)).mono ?_
        rintro e w5 ⟨b, rfl, hc5, hg5⟩
        have S6 := S5.call hc5 hg5
        have hdk6 : OwnF 0 w5 (.slice xa xn xc) ans := own_cur hdk S5.cur (by decide) hg5
        have hx76 := box_cur hx7 S5.cur (by decide) hg5
        have hx86 := box_cur hx8 S5.cur (by decide) hg5
        clear S5 hxc hdk hx7 hx8 hc5 hg5
        have hx7 := hx76
        have hx8 := hx86
        have hdk := hdk6
        clear hx76 hx86 hdk6
        cases b
        · go_wp2
          go_roundw
          case rel => exact ⟨la, vd, ld, k + 1, Nat.le_succ_of_le (unhide HK), by omega, unhide HA, by go_num, S6⟩
          case measure => simp [intOf]; omega
        · skip
          obtain ⟨c0, c1, c2, c3⟩ := row_cell4 hx7
          have hzw : w.heap.size + 1 ≤ w5.heap.size := by have := row_lt S6.box; omega
          have hl9 : la.length ≤ k := unhide HK
          go_wp2_with (at_builtin; refine wpList_append_own _ rfl _ _ 27 rfl (w.heap.size + 1) 37 i0 _ 4 56 Try.underlying27 hi hz0 hz1 hz2 rfl (by decide) _ _ _ rfl (World.ownsRow.alloc S6.own _) ⟨w5.heap.size, 0, none⟩ 1 1 [.int .i64 kd, .string nm, .string tx, .string tt] rfl rfl (news_act _ _ _ _) ?c2 ?c3 ?c4 ?c5 ?_)
          case c2 => exact one4A _ _ _ _
          case c3 => unfold maxLen; omega
          case c4 => omega
          case c5 => simp; omega
          intro u' wv hown' hgrow _
          have SA : LS B c w wv u' vd (la ++ [⟨kd, nm, tx, tt⟩]) ld := (S6.up ((Below.refl _ _).alloc (Nat.le_refl _) _)).app (by unfold OwnA; rw [acs_append, List.length_append]; exact hown') hgrow
          have hx8' : wv.heap[b8]? = some (.cells #[(.slice xa xn xc)] 26 (0, 0)) := row_aside (row_up hx8 ((Below.refl _ _).alloc (Nat.le_refl _) _)) (World.ownsRow.alloc S6.own _) (by decide) hgrow
          have hdx : OwnF 0 wv (.slice xa xn xc) ans := own_other (own_stays hdk ((Below.refl _ _).alloc (Nat.le_refl _) _)) (World.ownsRow.alloc S6.own _) (by decide) hgrow
          clear hown' hgrow hx8 hx7 hdk S6 c0 c1 c2 c3
          have b8c := row_cell hx8'
          have b3c := row_cell SA.box
          have b3f := row_frozen SA.box
          have SB := hide (SA.setd hdx HSM)
          go_wp2
          go_roundw
          case rel => exact ⟨_, _, ans, k + 1, by simp; exact unhide HK, by omega, (fun y hy => by rcases List.mem_append.1 hy with h | h; exact unhide HA y h; simp at h; subst h; exact unhide HSA), by go_num, unhide SB⟩
          case measure => simp [intOf]; omega
      · clear hxc
        obtain ⟨c0, c1, c2, c3⟩ := row_cell4 hx7
        have hzw : w.heap.size + 1 ≤ w4.heap.size := by have := row_lt S5.box; omega
        have hl9 : la.length ≤ k := unhide HK
        go_wp2_with (at_builtin; refine wpList_append_own _ rfl _ _ 27 rfl (w.heap.size + 1) 37 i0 _ 4 56 Try.underlying27 hi hz0 hz1 hz2 rfl (by decide) _ _ _ rfl (World.ownsRow.alloc S5.own _) ⟨w4.heap.size, 0, none⟩ 1 1 [.int .i64 kd, .string nm, .string tx, .string tt] rfl rfl (news_act _ _ _ _) ?c2 ?c3 ?c4 ?c5 ?_)
        case c2 => exact one4A _ _ _ _
        case c3 => unfold maxLen; omega
        case c4 => omega
        case c5 => simp; omega
        intro u' wv hown' hgrow _
        have SA : LS B c w wv u' vd (la ++ [⟨kd, nm, tx, tt⟩]) ld := (S5.up ((Below.refl _ _).alloc (Nat.le_refl _) _)).app (by unfold OwnA; rw [acs_append, List.length_append]; exact hown') hgrow
        have hx8' : wv.heap[b8]? = some (.cells #[(.slice xa xn xc)] 26 (0, 0)) := row_aside (row_up hx8 ((Below.refl _ _).alloc (Nat.le_refl _) _)) (World.ownsRow.alloc S5.own _) (by decide) hgrow
        have hdx : OwnF 0 wv (.slice xa xn xc) ans := own_other (own_stays hdk ((Below.refl _ _).alloc (Nat.le_refl _) _)) (World.ownsRow.alloc S5.own _) (by decide) hgrow
        clear hown' hgrow hx8 hx7 hdk S5 c0 c1 c2 c3
        have b8c := row_cell hx8'
        have b3c := row_cell SA.box
        have b3f := row_frozen SA.box
        have SB := hide (SA.setd hdx HSM)
        go_wp2
        go_roundw
        case rel => exact ⟨_, _, ans, k + 1, by simp; exact unhide HK, by omega, (fun y hy => by rcases List.mem_append.1 hy with h | h; exact unhide HA y h; simp at h; subst h; exact unhide HSA), by go_num, unhide SB⟩
        case measure => simp [intOf]; omega
    · go_wp2
      go_ret
      exact ⟨_, la, Nat.le_trans (unhide HK) hk, unhide HA, rfl, own_based S1.own (by omega), S1.cur, S1.grown⟩
end Go.Proofs.Ytnlcknklghalkaa

/- A figure: what spec.l01Figure answers. -/
namespace Go.Proofs.Ytnlcknklghalkaa
open Go.RowKit
open Plain
set_option linter.unusedVariables false

theorem l01Figure_any (x : Int) (w : World) (h0 : 0 ≤ x) (h1 : x < 16) :
    Calls Try.prog 50 #[.int .i64 x] w fun e w' => e = .returned (.int .u8 (figI x)) ∧ w = w' := by
  unfold figI
  obtain ⟨n, rfl⟩ := Int.eq_ofNat_of_zero_le h0
  rw [Int.toNat_natCast]
  by_cases h : n < 10
  · rw [fig_low h]
    go_enter Try.func50, Try.ntmps50
    go_wp2
    go_ret
    exact ⟨rfl, rfl⟩
  · rw [fig_high h (by omega)]
    go_enter Try.func50, Try.ntmps50
    go_wp2
    go_ret
    exact ⟨by go_num, rfl⟩

end Go.Proofs.Ytnlcknklghalkaa

/- Decimal figures: what both Decimal answer. -/
namespace Go.Proofs.Ytnlcknklghalkaa
open Go.RowKit
open Plain
set_option linter.unusedVariables false

theorem spec_Decimal_zero (w : World) :
    Calls Try.prog 34 #[.int .i64 0] w fun e w' => e = .returned (.string ⟨(Lib.itoa 0).toArray⟩) ∧ Below w.heap.size w w' := by
  rw [show Lib.itoa 0 = [48] from by rw [show (0 : Int) = ((0 : Nat) : Int) from rfl, itoa_nat, Lib.decDigits, dif_pos (by omega)]; rfl]
  go_enter Try.func34, Try.ntmps34
  go_wp2
  go_ret
  exact ⟨rfl, Below.refl _ _⟩

set_option maxHeartbeats 1000000 in
set_option maxRecDepth 100000 in
theorem spec_Decimal_pos (N : Nat) (w : World) (h0 : N ≠ 0) (h1 : N ≤ 9223372036854775807) :
    Calls Try.prog 34 #[.int .i64 N] w fun e w' => e = .returned (.string ⟨(Lib.itoa N).toArray⟩) ∧ Below w.heap.size w w' := by
  rw [itoa_nat]
  have d0 : ((N : Int) == 0) = false := by simp; omega
  have d1 : decide ((N : Int) < 0) = false := by simp
  have H0 := hide h0
  clear h0
  go_enter Try.func34, Try.ntmps34
  go_wp2
  go_loopw [0, 4] (fun n v wr => ∃ (m : Nat) (suf : List UInt8), n = .int .i64 m ∧ m ≤ 9223372036854775807 ∧ v = .string ⟨suf.toArray⟩ ∧ DecInv N m suf ∧ Below w.heap.size w wr)
    (fun n _ _ => (intOf n).toNat)
  case atStart => exact ⟨N, [], rfl, h1, rfl, DecInv.start N, Below.refl _ _⟩
  case round =>
    obtain ⟨m, suf, rfl, hm, rfl, hinv, hbel⟩ := hrel
    have hsl := hinv.2
    have hsl' : (⟨suf.toArray⟩ : ByteArray).size ≤ 20 := hsl
    by_cases hz : m = 0
    · subst hz
      have hd := hide (hinv.done (unhide H0))
      clear hinv
      go_wp2
      go_ret
      exact ⟨by rw [unhide hd]; rfl, hbel⟩
    · have dz1 : ((m : Int) != 0) = true := by simp; omega
      have dz2 : decide ((m : Int) % 10 < 0) = false := by simp; omega
      have hst := hinv.step (by omega) hz
      have hcv : ∀ W : World, (convert 22 9 (.slice (some ⟨W.heap.size, 0, none⟩) 1 1)).run Try.prog (W.alloc (.cells #[.int .u8 (figI ((m : Int) % 10))] 5)) = .ok (.string ⟨[fig (m % 10)].toArray⟩) (W.alloc (.cells #[.int .u8 (figI ((m : Int) % 10))] 5)) := fun W => one_str W (fig (m % 10))
      have HZ := hide hz
      clear hinv hz
      go_wp2_with (go_at_call 50; refine (l01Figure_any _ _ ?_ ?_).mono ?_; omega; omega; rintro e w1 ⟨rfl, rfl⟩)
      go_roundw
      case rel => exact ⟨m / 10, fig (m % 10) :: suf, by go_num, by omega, congrArg Value.string (ByteArray.mk_append_mk [fig (m % 10)] suf), hst, hbel.alloc hbel.size _⟩
      case measure => have := unhide HZ; simp [intOf]; omega

set_option maxHeartbeats 1000000 in
set_option maxRecDepth 100000 in
theorem spec_Decimal_neg (N : Nat) (w : World) (h0 : N ≠ 0) (h1 : N ≤ 9223372036854775808) :
    Calls Try.prog 34 #[.int .i64 (-(N : Int))] w fun e w' => e = .returned (.string ⟨(Lib.itoa (-(N : Int))).toArray⟩) ∧ Below w.heap.size w w' := by
  rw [itoa_neg h0]
  have d0 : (-(N : Int) == 0) = false := by simp; omega
  have d1 : decide (-(N : Int) < 0) = true := by simp; omega
  have d2 : decide (0 < N) = true := by simp; omega
  have H0 := hide h0
  clear h0
  go_enter Try.func34, Try.ntmps34
  go_wp2
  go_loopw [0, 4] (fun n v wr => ∃ (m : Nat) (suf : List UInt8), n = .int .i64 (-(m : Int)) ∧ m ≤ 9223372036854775808 ∧ v = .string ⟨suf.toArray⟩ ∧ DecInv N m suf ∧ Below w.heap.size w wr)
    (fun n _ _ => (intOf n).natAbs)
  case atStart => exact ⟨N, [], rfl, h1, rfl, DecInv.start N, Below.refl _ _⟩
  case round =>
    obtain ⟨m, suf, rfl, hm, rfl, hinv, hbel⟩ := hrel
    have hsl := hinv.2
    have hsl' : (⟨suf.toArray⟩ : ByteArray).size ≤ 20 := hsl
    by_cases hz : m = 0
    · subst hz
      have hd := hide (hinv.done (unhide H0))
      clear hinv
      go_wp2
      go_ret
      exact ⟨by rw [← unhide hd]; exact congrArg (fun b => Ending.returned (Value.string b)) (ByteArray.mk_append_mk [45] suf), hbel⟩
    · have dz1 : (-(m : Int) != 0) = true := by simp; omega
      have hst := hinv.step (by omega) hz
      obtain ⟨r, hr⟩ : ∃ r, r = m % 10 := ⟨_, rfl⟩
      obtain ⟨q, hq⟩ : ∃ q, q = m / 10 := ⟨_, rfl⟩
      have t1 := tmod_neg m
      have t2 := tdiv_neg m
      rw [← hr] at hst t1
      rw [← hq] at hst t2
      have hr9 : r ≤ 9 := by omega
      have hq9 : q ≤ 922337203685477580 := by omega
      have hqm : q < m := by omega
      have HQ := hide hqm
      have hcv : ∀ W : World, (convert 22 9 (.slice (some ⟨W.heap.size, 0, none⟩) 1 1)).run Try.prog (W.alloc (.cells #[.int .u8 (figI (r : Int))] 5)) = .ok (.string ⟨[fig r].toArray⟩) (W.alloc (.cells #[.int .u8 (figI (r : Int))] 5)) := fun W => one_str W (fig r)
      clear hinv hr hq hqm hz
      by_cases hr0 : r = 0
      · subst hr0
        have hcv0 : ∀ W : World, (convert 22 9 (.slice (some ⟨W.heap.size, 0, none⟩) 1 1)).run Try.prog (W.alloc (.cells #[.int .u8 (figI 0)] 5)) = .ok (.string ⟨[fig 0].toArray⟩) (W.alloc (.cells #[.int .u8 (figI 0)] 5)) := fun W => one_str W (fig 0)
        clear hcv
        go_wp2_with (go_at_call 50; refine (l01Figure_any _ _ ?_ ?_).mono ?_; omega; omega; rintro e w1 ⟨rfl, rfl⟩)
        go_roundw
        case rel => exact ⟨q, _ :: suf, rfl, by omega, congrArg Value.string (ByteArray.mk_append_mk [_] suf), hst, hbel.alloc hbel.size _⟩
        case measure => have := unhide HQ; simp [intOf]; omega
      · have dr : decide (-(r : Int) < 0) = true := by simp; omega
        go_wp2_with (go_at_call 50; refine (l01Figure_any _ _ ?_ ?_).mono ?_; omega; omega; rintro e w1 ⟨rfl, rfl⟩)
        go_roundw
        case rel => exact ⟨q, _ :: suf, rfl, by omega, congrArg Value.string (ByteArray.mk_append_mk [_] suf), hst, hbel.alloc hbel.size _⟩
        case measure => have := unhide HQ; simp [intOf]; omega

theorem spec_Decimal_any (n : Int) (w : World) (h0 : -9223372036854775808 ≤ n) (h1 : n ≤ 9223372036854775807) :
    Calls Try.prog 34 #[.int .i64 n] w fun e w' => e = .returned (.string ⟨(Lib.itoa n).toArray⟩) ∧ Below w.heap.size w w' := by
  by_cases hz : n = 0
  · subst hz; exact spec_Decimal_zero w
  · by_cases hp : 0 ≤ n
    · obtain ⟨N, rfl⟩ := Int.eq_ofNat_of_zero_le hp
      exact spec_Decimal_pos N w (by omega) (by omega)
    · obtain ⟨N, hN⟩ := Int.eq_ofNat_of_zero_le (show 0 ≤ -n by omega)
      obtain rfl : n = -(N : Int) := by omega
      exact spec_Decimal_neg N w (by omega) (by omega)

theorem below_grow (w : World) (k : Nat) (os : Array Obj) : Below w.heap.size w (Sort.grow (w.drewN k) os) :=
  ⟨rfl, rfl, rfl, by simp [Sort.grow], fun j hj => by
    show (w.heap ++ os)[j]? = _
    rw [Array.getElem?_append_left hj]⟩

end Go.Proofs.Ytnlcknklghalkaa

/- The draws of the laws: a disk. -/
namespace Go.Proofs.Ytnlcknklghalkaa
open Go.RowKit
open Plain
set_option linter.unusedVariables false
set_option linter.unusedSimpArgs false

/-- The draw of a disk under way: its box in block bd, the answer's own box, the cursor. -/
structure DS (B c : Nat) (w W : World) (bd : Nat) (ov : Value) (l : List Fl) : Prop where
  lt : w.heap.size < bd
  res : W.heap[w.heap.size]? = some (.cells #[.slice none 0 0] 26 (0, 0))
  box : W.heap[bd]? = some (.cells #[ov] 26 (0, 0))
  own : OwnF w.heap.size W ov l
  cur : Cur B W c
  grown : w.grownBy W (some c)
  ltc : c < w.heap.size
namespace DS
variable {B c bd : Nat} {w W W' : World} {ov : Value} {l : List Fl}
theorem call (h : DS B c w W bd ov l) (hc : Cur B W' c) (hg : W.grownBy W' (some c)) : DS B c w W' bd ov l :=
  ⟨h.lt, box_cur h.res h.cur (by decide) hg, box_cur h.box h.cur (by decide) hg, own_cur h.own h.cur (by decide) hg, hc, h.grown.trans hg, h.ltc⟩
theorem up (h : DS B c w W bd ov l) (hb : Below W.heap.size W W') : DS B c w W' bd ov l :=
  ⟨h.lt, row_up h.res hb, row_up h.box hb, own_stays h.own hb, h.cur.up hb, h.grown.trans (grown_of_below hb _), h.ltc⟩
theorem drew (h : DS B c w W bd ov l) : DS B c w W.drew bd ov l :=
  ⟨h.lt, h.res, h.box, h.own, h.cur, ⟨h.grown.os, h.grown.tape, h.grown.output, h.grown.size, h.grown.block⟩, h.ltc⟩
theorem setb (h : DS B c w W bd ov l) {v' : Value} {l' : List Fl} (ho : OwnF w.heap.size W v' l') : DS B c w (W.setCell ⟨bd, 0, none⟩ v') bd v' l' :=
  have h1 := h.lt
  have h2 := h.ltc
  ⟨h.lt, row_set h.res (by omega), set1 v' h.box, own_set ho h.box (by decide), h.cur.set h.box (by omega), h.grown.andThen (grown_set W ⟨bd, 0, none⟩ v') (fun j hj => by cases hj; exact .inl (Nat.le_of_lt h1)), h2⟩
theorem fin (h : DS B c w W bd ov l) : (W.setCell ⟨w.heap.size, 0, none⟩ ov).heap[w.heap.size]? = some (.cells #[ov] 26 (0, 0)) ∧ OwnF w.heap.size (W.setCell ⟨w.heap.size, 0, none⟩ ov) ov l ∧ Cur B (W.setCell ⟨w.heap.size, 0, none⟩ ov) c ∧ w.grownBy (W.setCell ⟨w.heap.size, 0, none⟩ ov) (some c) :=
  ⟨set1 ov h.res, own_set h.own h.res (by decide), h.cur.set h.res h.ltc, h.grown.andThen (grown_set W ⟨w.heap.size, 0, none⟩ ov) (fun j hj => by cases hj; exact .inl (Nat.le_refl _))⟩
end DS
theorem set_same {α : Type} {l : List α} {i : Nat} {x : α} (h : l[i]? = some x) : l.set i x = l := by
  apply List.ext_getElem?
  intro j
  by_cases e : i = j
  · subst e
    rw [h, List.getElem?_set_self ((List.getElem?_eq_some_iff.1 h).1)]
  · rw [List.getElem?_set_ne e]
theorem fcs_text {l : List Fl} {q : Nat} {f : Fl} (hf : l[q]? = some f) (t : ByteArray) : (fcs l).set (q * 3 + 1) (.string t) = fcs (l.set q ⟨f.name, t, f.kept⟩) := by
  have hq := (List.getElem?_eq_some_iff.1 hf).1
  rw [← fcs_set l q ⟨f.name, t, f.kept⟩ hq]
  simp only
  rw [set_same (fcs_0 hf)]
  exact (set_same (l := (fcs l).set (q * 3 + 1) (.string t)) (by rw [List.getElem?_set_ne (by omega)]; exact fcs_2 hf)).symm
theorem fcs_name {l : List Fl} {q : Nat} {f : Fl} (hf : l[q]? = some f) (t : ByteArray) : (fcs l).set (q * 3) (.string t) = fcs (l.set q ⟨t, f.text, f.kept⟩) := by
  have hq := (List.getElem?_eq_some_iff.1 hf).1
  rw [← fcs_set l q ⟨t, f.text, f.kept⟩ hq]
  simp only
  have e1 : ((fcs l).set (q * 3) (.string t)).set (q * 3 + 1) (.string f.text) = (fcs l).set (q * 3) (.string t) := set_same (by rw [List.getElem?_set_ne (by omega)]; exact fcs_1 hf)
  rw [e1]
  exact (set_same (l := (fcs l).set (q * 3) (.string t)) (by rw [List.getElem?_set_ne (by omega)]; exact fcs_2 hf)).symm
theorem fcs_kept {l : List Fl} {q : Nat} {f : Fl} (hf : l[q]? = some f) (k : Int) : (fcs l).set (q * 3 + 2) (.int .i64 k) = fcs (l.set q ⟨f.name, f.text, k⟩) := by
  have hq := (List.getElem?_eq_some_iff.1 hf).1
  rw [← fcs_set l q ⟨f.name, f.text, k⟩ hq]
  simp only
  rw [set_same (fcs_0 hf), set_same (fcs_1 hf)]
theorem small_set {m q : Nat} {l : List Fl} {f : Fl} (h : SmallF m l) (hn : f.name.size ≤ m) (ht : f.text.size ≤ m) : SmallF m (l.set q f) :=
  ⟨by rw [List.length_set]; exact h.1, fun x hx => by
    rcases List.mem_or_eq_of_mem_set hx with h1 | rfl
    · exact h.2 x h1
    · exact ⟨hn, ht⟩⟩
theorem small_at {m q : Nat} {l : List Fl} {f : Fl} (h : SmallF m l) (hf : l[q]? = some f) : f.name.size ≤ m ∧ f.text.size ≤ m := h.2 f (List.mem_of_getElem? hf)
/-- The row of a disk that is not empty, at one of its files. -/
theorem DS.laid {B c bd q N : Nat} {w W : World} {ya : Option Addr} {yc : Nat} {l : List Fl} {f : Fl} (h : DS B c w W bd (.slice ya N yc) l) (hf : l[q]? = some f) : ∃ g, ya = some ⟨g, 0, none⟩ ∧ N = l.length := by
  obtain ⟨a, cc, e1, hcl⟩ := h.own.shape
  obtain ⟨g, hg, _⟩ := hcl q f hf
  injection e1 with e1 e2 e3
  exact ⟨g, e1.trans hg, e2⟩
theorem DS.at {B c bd q : Nat} {w W : World} {g yc : Nat} {l : List Fl} {f : Fl} (h : DS B c w W bd (.slice (some ⟨g, 0, none⟩) l.length yc) l) (hf : l[q]? = some f) : w.heap.size ≤ g ∧ g < W.heap.size ∧ W.cell? ⟨g, q * 3, none⟩ = some (.string f.name) ∧ W.cell? ⟨g, q * 3 + 1, none⟩ = some (.string f.text) ∧ W.cell? ⟨g, q * 3 + 2, none⟩ = some (.int .i64 f.kept) ∧ ∀ k, W.frozen? ⟨g, k, none⟩ = false := by
  have hq := (List.getElem?_eq_some_iff.1 hf).1
  have ho := h.own
  unfold OwnF at ho
  refine ⟨(ho.lt g rfl).1, (ho.lt g rfl).2, ?_, ?_, ?_, fun k => ho.frozenAt k⟩
  · rw [ho.cellAt _ (by omega), fcs_0 hf]
  · rw [ho.cellAt _ (by omega), fcs_1 hf]
  · rw [ho.cellAt _ (by omega), fcs_2 hf]
theorem DS.setf {B c bd : Nat} {w W : World} {g yc : Nat} {l l' : List Fl} (h : DS B c w W bd (.slice (some ⟨g, 0, none⟩) l.length yc) l) (j : Nat) (u : Value) (hl : l'.length = l.length) (he : (fcs l).set j u = fcs l') : DS B c w (W.setCell ⟨g, j, none⟩ u) bd (.slice (some ⟨g, 0, none⟩) l.length yc) l' := by
  have ho := h.own
  unfold OwnF at ho
  have hs := ho.stored j u
  have hg1 := (ho.lt g rfl).1
  have h2 := h.ltc
  refine ⟨h.lt, row_aside h.res ho (by decide) hs.2, row_aside h.box ho (by decide) hs.2, ?_, h.cur.kept hs.2 (fun k hk => by cases hk; omega), h.grown.andThen hs.2 (fun k hk => by cases hk; exact .inl hg1), h2⟩
  unfold OwnF
  rw [hl, ← he]
  exact hs.1
theorem fcs_snoc (l : List Fl) (f : Fl) : fcs (l ++ [f]) = fcs l ++ fc f := by simp [fcs]
/-- The disk's row, appended to. -/
theorem DS.appended {B c bd : Nat} {w W W5 : World} {ov v' : Value} {l : List Fl} {f : Fl} {ob : Obj} (h : DS B c w W bd ov l) (h5 : W5.ownsRow w.heap.size 55 3 v' (l.length + 1) (fcs l ++ fc f)) (hg : (W.alloc ob).grownBy W5 ov.ownBlock) :
    DS B c w (W5.setCell ⟨bd, 0, none⟩ v') bd v' (l ++ [f]) ∧ W5.cell? ⟨bd, 0, none⟩ = some ov ∧ W5.frozen? ⟨bd, 0, none⟩ = false := by
  have ha := h.up ((Below.refl W.heap.size W).alloc (Nat.le_refl _) ob)
  have hb := row_aside ha.box ha.own (by decide) hg
  have hr := row_aside ha.res ha.own (by decide) hg
  have h1 := h.lt
  have h2 := h.ltc
  have ho : OwnF w.heap.size W5 v' (l ++ [f]) := by
    unfold OwnF
    rw [fcs_snoc, List.length_append]
    exact h5
  have hcu : Cur B W5 c := ha.cur.kept hg (fun k hk => by have := (ha.own.lt k hk).1; omega)
  exact ⟨⟨h1, row_set hr (by omega), set1 v' hb, own_set ho hb (by decide), hcu.set hb (by omega), (ha.grown.andThen hg (fun j hj => .inl (ha.own.lt j hj).1)).andThen (grown_set W5 ⟨bd, 0, none⟩ v') (fun j hj => by cases hj; exact .inl (Nat.le_of_lt h1)), h2⟩, row_cell hb, row_frozen hb⟩
theorem small_wide {m n : Nat} {l : List Fl} (h : SmallF m l) (hm : m ≤ n) : SmallF n l := ⟨Nat.le_trans h.1 hm, fun f hf => ⟨Nat.le_trans (h.2 f hf).1 hm, Nat.le_trans (h.2 f hf).2 hm⟩⟩

set_option maxHeartbeats 4000000 in
set_option maxRecDepth 100000 in
theorem l03Disk_any (B c : Nat) (w : World) (hc : Cur B w c) :
    Calls Try.prog 14 #[.pointer (some ⟨c, 0, none⟩)] w fun e w' => ∃ (v : Value) (l : List Fl), SmallF 1048576 l ∧ e = .returned (.agg #[v]) ∧ OwnF w.heap.size w' v l ∧ Cur B w' c ∧ w.grownBy w' (some c) := by
  have hlt := hc.lt
  have D0 : DS B c w ((w.alloc (.cells #[.slice none 0 0] 26)).alloc (.cells #[.slice none 0 0] 26)) (w.heap.size + 1) (.slice none 0 0) [] :=
    ⟨by omega, by rw [Below.heap_alloc _ _ _ (by simp)]; exact heap_alloc_new _ _, by
      have := heap_alloc_new (w.alloc (.cells #[.slice none 0 0] 26)) (.cells #[.slice none 0 0] 26)
      simpa using this, World.ownsRow_nil _ _ _ _, hc.kept ((World.grownBy_alloc _ _ none).trans (World.grownBy_alloc _ _ none)) (fun k hk => by cases hk), (World.grownBy_alloc _ _ _).trans (World.grownBy_alloc _ _ _), hlt.2⟩
  have HD0 := hide D0
  clear hc D0
  go_enter Try.func14, Try.ntmps14
  go_wp2
  revert HD0
  generalize ((w.alloc (.cells #[.slice none 0 0] 26)).alloc (.cells #[.slice none 0 0] 26)) = W0
  generalize w.heap.size + 1 = bd
  intro HD0
  have hbd := (unhide HD0).lt
  go_loopw [4] (fun i wr => ∃ (k : Nat) (l : List Fl) (ov : Value), k ≤ 6 ∧ i = .int .i64 k ∧ l.length ≤ k ∧ SmallF 1000 l ∧ DS B c w wr bd ov l) (fun i _ => 6 - (intOf i).toNat)
  case atStart => exact ⟨0, [], _, by omega, rfl, Nat.zero_le _, ⟨Nat.zero_le _, fun f hf => by cases hf⟩, unhide HD0⟩
  case round =>
    obtain ⟨k, l, ov, hk, rfl, hlk, hsm, S1⟩ := hrel
    have HSM := hide hsm
    clear hsm HD0
    go_wp2_with fail
    refine (l01Below_any B c 6 _ S1.cur (by omega) (by omega)).mono ?_
    rintro e w2 ⟨x, hx6, rfl, hc2, hg2⟩
    have S2 := S1.call hc2 hg2
    clear S1 hc2 hg2
    by_cases hltx : k < x
    · have hltI : (k : Int) < (x : Int) := by omega
      go_wp2_with fail
      refine (l01Below_any B c 9 _ S2.cur (by omega) (by omega)).mono ?_
      rintro e w3 ⟨n, hn9, rfl, hc3, hg3⟩
      have S3 := S2.call hc3 hg3
      clear S2 hc3 hg3
      go_wp2_with fail
      refine (l01Text_any B c n _ S3.cur (by omega)).mono ?_
      rintro e w4 ⟨tl, htl, rfl, hc4, hg4⟩
      have S4 := S3.call hc4 hg4
      clear S3 hc4 hg4
      obtain ⟨tx, htx⟩ : ∃ t : ByteArray, t = ⟨tl.toArray⟩ := ⟨_, rfl⟩
      rw [← htx]
      have hts : tx.size ≤ 8 := by rw [htx]; show tl.toArray.size ≤ 8; simp; omega
      clear htl htx
      have QNM := hide (fun W hW => l03Named_any B c W hW)
      have QK := hide (fun W hW => l01Below_any B c (tx.size + 1) W hW (by omega) (by omega))
      have hcast : ((tx.size + 1 : Nat) : Int) = (tx.size : Int) + 1 := by omega
      rw [hcast] at QK
      clear hcast
      have QP := hide (fun f W v h => l03Put_any l f v w.heap.size W (by omega) h)
      go_wp2
      have bx4 := row_cell S4.box
      have hwr : IntKind.i64.wrap ((tx.size : Int) + 1) = (tx.size : Int) + 1 := by rw [IntKind.wrap_i64]; omega
      have HS4 := hide S4
      clear S4
      refine lateBegin (S := fun w' => w'.cell? ⟨bd, 0, none⟩ = some ov) 11 (by kernel_rfl) (bx4) (fun hHeld => ?_)
      refine lateTake 0 (some 19) ?_ rfl (by kernel_rfl) (by kernel_rfl) (by kernel_rfl) (by kernel_rfl) rfl (fun _ _ _ h => h) (by rfl) (by assumption) ?_ ?_
      rotate_left
      · (intro w hSw; (try dsimp only at hSw); go_simp <;> with_reducible rfl)
      simp only [Act.put, List.setIfInBounds_toArray, List.set_cons_zero, List.set_cons_succ]
      refine lateTake 1 (some 20) ?_ rfl (by kernel_rfl) (by kernel_rfl) (by kernel_rfl) (by kernel_rfl) rfl (fun _ _ _ h => h) (by rfl) (by assumption) ?_ ?_
      rotate_left
      · (intro w hSw; (try dsimp only at hSw); go_simp <;> with_reducible rfl)
      simp only [Act.put, List.setIfInBounds_toArray, List.set_cons_zero, List.set_cons_succ]
      refine lateTake 3 (some 22) ?_ rfl (by kernel_rfl) (by kernel_rfl) (by kernel_rfl) (by kernel_rfl) rfl (fun _ _ _ h => h) (by rfl) (by assumption) ?_ ?_
      rotate_left
      · (intro w hSw; (try dsimp only at hSw); go_simp <;> with_reducible rfl)
      simp only [Act.put, List.setIfInBounds_toArray, List.set_cons_zero, List.set_cons_succ]
      refine lateTake 4 (some 23) ?_ rfl (by kernel_rfl) (by kernel_rfl) (by kernel_rfl) (by kernel_rfl) rfl (fun _ _ _ h => h) (by rfl) (by assumption) ?_ ?_
      rotate_left
      · (intro w hSw; (try dsimp only at hSw); go_simp <;> with_reducible rfl)
      simp only [Act.put, List.setIfInBounds_toArray, List.set_cons_zero, List.set_cons_succ]
      refine lateTake 5 (some 24) ?_ rfl (by kernel_rfl) (by kernel_rfl) (by kernel_rfl) (by kernel_rfl) rfl (fun _ _ _ h => h) (by rfl) (by assumption) ?_ ?_
      rotate_left
      · (intro w hSw; (try dsimp only at hSw); go_simp <;> with_reducible rfl)
      simp only [Act.put, List.setIfInBounds_toArray, List.set_cons_zero, List.set_cons_succ]
      refine lateTake 6 (some 25) ?_ rfl (by kernel_rfl) (by kernel_rfl) (by kernel_rfl) (by kernel_rfl) rfl (fun _ _ _ h => h) (by rfl) (by assumption) ?_ ?_
      rotate_left
      · (intro w hSw; (try dsimp only at hSw); go_simp <;> with_reducible rfl)
      simp only [Act.put, List.setIfInBounds_toArray, List.set_cons_zero, List.set_cons_succ]
      refine lateTake 7 (some 26) ?_ rfl (by kernel_rfl) (by kernel_rfl) (by kernel_rfl) (by kernel_rfl) rfl (fun _ _ _ h => h) (by rfl) (by assumption) ?_ ?_
      rotate_left
      · (intro w hSw; (try dsimp only at hSw); go_simp <;> with_reducible rfl)
      simp only [Act.put, List.setIfInBounds_toArray, List.set_cons_zero, List.set_cons_succ]
      refine lateStep 2 (by kernel_rfl) rfl (by rfl) (fun K hK => ?_)
      go_simp
      refine (unhide QNM w4.drew (unhide HS4).drew.cur).mono ?_
      rintro e w5 ⟨nz, hnz, rfl, hc5, hg5⟩
      go_wp2_with fail
      refine hK.out _ _ (row_cell ((unhide HS4).drew.call hc5 hg5).box) (fun hHeld2 => ?_)
      clear hK K hHeld
      have hHeld := hHeld2; clear hHeld2
      try simp only [Act.put, List.setIfInBounds_toArray, List.set_cons_zero, List.set_cons_succ]
      have S5 := (unhide HS4).drew.call hc5 hg5
      clear hc5 hg5
      refine lateStep 8 (by kernel_rfl) rfl (by rfl) (fun K hK => ?_)
      go_simp
      refine (unhide QK w5 S5.cur).mono ?_
      rintro e w6 ⟨kp, hkp, rfl, hc6, hg6⟩
      go_wp2_with fail
      refine hK.out _ _ (row_cell (S5.call hc6 hg6).box) (fun hHeld2 => ?_)
      clear hK K hHeld
      have hHeld := hHeld2; clear hHeld2
      try simp only [Act.put, List.setIfInBounds_toArray, List.set_cons_zero, List.set_cons_succ]
      have S6 := S5.call hc6 hg6
      clear hc6 hg6 S5
      refine lateTake 9 (some 28) ?_ rfl (by kernel_rfl) (by kernel_rfl) (by kernel_rfl) (by kernel_rfl) rfl (fun _ _ _ h => h) (by rfl) (by assumption) ?_ ?_
      rotate_left
      · (intro w hSw; (try dsimp only at hSw); go_simp <;> with_reducible rfl)
      simp only [Act.put, List.setIfInBounds_toArray, List.set_cons_zero, List.set_cons_succ]
      refine lateStep 10 (by kernel_rfl) rfl (by rfl) (fun K hK => ?_)
      go_simp
      refine (unhide QP ⟨nz, tx, (kp : Int)⟩ w6 ov S6.own).mono ?_
      rintro e w7 ⟨v7, rfl, hown7, hb7⟩
      go_wp2_with fail
      refine hK.out _ _ (cell_on hb7 hHeld) (fun hHeld2 => ?_)
      clear hK K hHeld
      have hHeld := hHeld2; clear hHeld2
      try simp only [Act.put, List.setIfInBounds_toArray, List.set_cons_zero, List.set_cons_succ]
      have S7 := S6.up hb7
      obtain ⟨ya, yn, yc, hov⟩ := own_shape hown7
      subst hov
      have x7 := row_cell S7.box
      have xz7 := row_frozen S7.box
      have SN := hide (S7.setb (own_based hown7 S6.grown.size))
      clear hown7 hb7 S6 S7
      refine lateLast 11 (by decide) (by kernel_rfl) rfl (by rfl) (fun K hK => ?_)
      go_simp
      refine hK.out _ _ ?_
      clear hK K hHeld
      try simp only [Act.put, List.setIfInBounds_toArray, List.set_cons_zero, List.set_cons_succ]
      refine lateDone (by kernel_rfl) ?_ _
      have hpl := putL_len_le l ⟨nz, tx, (kp : Int)⟩
      have HSN := hide (putL_small (f := ⟨nz, tx, (kp : Int)⟩) (unhide HSM) (by have : nz.size ≤ 8 := (by simp [nameB] at hnz; omega); show nz.size ≤ 1000; omega) (by show tx.size ≤ 1000; omega) (by omega))
      go_wp2
      go_roundw
      case rel => exact ⟨k + 1, _, _, by omega, by go_num, by omega, unhide HSN, unhide SN⟩
      case measure => simp [intOf]; omega
    · have hltI : ¬ (k : Int) < (x : Int) := by omega
      have hltB : decide ((k : Int) < (x : Int)) = false := by simpa using hltI
      obtain ⟨ya, yc, hov, hcellF⟩ := S2.own.shape
      subst hov
      clear hcellF

      obtain ⟨N, hN⟩ : ∃ N, N = l.length := ⟨_, rfl⟩
      have HLN := hide hN
      have hsl : SmallF 1048576 l := small_wide (unhide HSM) (by omega)
      rw [← hN] at S2 hlk
      clear hN
      by_cases h0 : N = 0
      · subst h0
        have hfin := S2.fin
        have r0 := row_cell S2.res
        have z0 := row_frozen S2.res
        have b0 := row_cell S2.box
        go_wp2
        try simp only [Exit.inBlock, Exit.then]
        refine bodyPost_ret (results_cell_row rfl _ _ w.heap.size 26 _ (0, 0) _ rfl hfin.1 Try.underlying26 rfl (by kernel_rfl)) rfl ?_
        exact ⟨_, l, hsl, rfl, hfin.2.1, hfin.2.2.1, hfin.2.2.2⟩
      · have b2 := row_cell S2.box
        have h0I : ¬ (N : Int) = 0 := by omega
        go_wp2_with fail
        refine (l01Below_any B c N _ S2.cur (by omega) (by omega)).mono ?_
        rintro e w3 ⟨q, hq, rfl, hc3, hg3⟩
        have S3 := S2.call hc3 hg3
        clear S2 hc3 hg3 b2
        go_wp2_with fail
        refine (l01Below_any B c 40 _ S3.cur (by omega) (by omega)).mono ?_
        rintro e w4 ⟨y, hy, rfl, hc4, hg4⟩
        have S4 := S3.call hc4 hg4
        clear S3 hc4 hg4
        have hy6 : y = 0 ∨ y = 1 ∨ y = 2 ∨ y = 3 ∨ y = 4 ∨ 5 ≤ y := by omega
        rcases hy6 with rfl | rfl | rfl | rfl | rfl | hy5
        · obtain ⟨f, hf⟩ : ∃ f, l[q]? = some f := ⟨_, List.getElem?_eq_getElem (by have := unhide HLN; omega)⟩
          obtain ⟨g, hyg, hNl⟩ := S4.laid hf
          subst hyg
          subst hNl
          obtain ⟨hg0, hgl, f0, f1, f2, hfz⟩ := S4.at hf
          have HFZ := hide hfz
          have hqI : (q : Int) < (l.length : Int) := by omega
          have b4 := row_cell S4.box
          have HS4 := hide S4
          have HF := hide hf
          have HSL := hide hsl
          clear S4 hfz hf hsl
          have hts := (small_at (unhide HSL) (unhide HF)).2
          have hwt : IntKind.i64.wrap ((f.text.size : Int) + 1) = (f.text.size : Int) + 1 := by rw [IntKind.wrap_i64]; omega
          have SA := hide ((unhide HS4).up ((Below.refl w4.heap.size w4).alloc (Nat.le_refl _) (.cells #[.int .i64 (-1), .int .i64 ((f.text.size : Int) + 1)] 3)))
          have QP : Hid (Calls Try.prog 32 #[.pointer (some ⟨c, 0, none⟩), .slice (some ⟨w4.heap.size, 0, none⟩) 2 2] (w4.alloc (.cells #[.int .i64 (-1), .int .i64 ((f.text.size : Int) + 1)] 3)).drew fun e w' => ∃ z : Int, -9223372036854775808 ≤ z ∧ z ≤ 9223372036854775807 ∧ e = .returned (.int .i64 z) ∧ Cur B w' c ∧ (w4.alloc (.cells #[.int .i64 (-1), .int .i64 ((f.text.size : Int) + 1)] 3)).drew.grownBy w' (some c)) := hide (by
            refine l01PickInt_any B c w4.heap.size 2 2 _ (unhide SA).drew.cur (by omega) (by omega) (by have := (unhide HS4).cur.lt; omega) (by show w4.heap.size < (w4.alloc _).heap.size; simp) (fun j hj => ?_)
            match j, hj with
            | 0, _ => exact ⟨_, by omega, by omega, cell_of_row _ _ 0 _ _ (0, 0) (heap_alloc_new w4 _)⟩
            | 1, _ => exact ⟨_, by omega, by omega, cell_of_row _ _ 1 _ _ (0, 0) (heap_alloc_new w4 _)⟩)
          go_upto_region 12 with fail
          refine lateBegin (S := fun w' => w'.cell? ⟨bd, 0, none⟩ = some (.slice (some ⟨g, 0, none⟩) l.length yc) ∧ w'.cell? ⟨g, q * 3, none⟩ = some (.string f.name) ∧ w'.cell? ⟨g, q * 3 + 1, none⟩ = some (.string f.text) ∧ w'.cell? ⟨g, q * 3 + 2, none⟩ = some (.int .i64 f.kept)) 16 (by kernel_rfl) (⟨b4, f0, f1, f2⟩) (fun hHeld => ?_)
          refine lateTake 0 (some 44) ?_ rfl (by kernel_rfl) (by kernel_rfl) (by kernel_rfl) (by kernel_rfl) rfl (fun _ _ _ h => h) (by rfl) (by assumption) ?_ ?_
          rotate_left
          · (intro w hSw; (try dsimp only at hSw); go_simp <;> with_reducible rfl)
          simp only [Act.put, List.setIfInBounds_toArray, List.set_cons_zero, List.set_cons_succ]
          refine lateTake 1 (some 45) ?_ rfl (by kernel_rfl) (by kernel_rfl) (by kernel_rfl) (by kernel_rfl) rfl (fun _ _ _ h => h) (by rfl) (by assumption) ?_ ?_
          rotate_left
          · (intro w hSw; (try dsimp only at hSw); go_simp <;> with_reducible rfl)
          simp only [Act.put, List.setIfInBounds_toArray, List.set_cons_zero, List.set_cons_succ]
          refine lateTake 2 (some 46) ?_ rfl (by kernel_rfl) (by kernel_rfl) (by kernel_rfl) (by kernel_rfl) rfl (fun _ _ _ h => h) (by rfl) (by assumption) ?_ ?_
          rotate_left
          · (intro w hSw; (try dsimp only at hSw); go_simp <;> with_reducible rfl)
          simp only [Act.put, List.setIfInBounds_toArray, List.set_cons_zero, List.set_cons_succ]
          refine lateTake 3 (some 47) ?_ rfl (by kernel_rfl) (by kernel_rfl) (by kernel_rfl) (by kernel_rfl) rfl (fun _ _ _ h => h) (by rfl) (by assumption) ?_ ?_
          rotate_left
          · (intro w hSw; (try dsimp only at hSw); go_simp <;> with_reducible rfl)
          simp only [Act.put, List.setIfInBounds_toArray, List.set_cons_zero, List.set_cons_succ]
          refine lateTake 4 (some 48) ?_ rfl (by kernel_rfl) (by kernel_rfl) (by kernel_rfl) (by kernel_rfl) rfl (fun _ _ _ h => h) (by rfl) (by assumption) ?_ ?_
          rotate_left
          · (intro w hSw; (try dsimp only at hSw); go_simp <;> with_reducible rfl)
          simp only [Act.put, List.setIfInBounds_toArray, List.set_cons_zero, List.set_cons_succ]
          refine lateTake 5 (some 49) ?_ rfl (by kernel_rfl) (by kernel_rfl) (by kernel_rfl) (by kernel_rfl) rfl (fun _ _ _ h => h) (by rfl) (by assumption) ?_ ?_
          rotate_left
          · (intro w hSw; (try dsimp only at hSw); go_simp <;> with_reducible rfl)
          simp only [Act.put, List.setIfInBounds_toArray, List.set_cons_zero, List.set_cons_succ]
          refine lateTake 6 (some 50) ?_ rfl (by kernel_rfl) (by kernel_rfl) (by kernel_rfl) (by kernel_rfl) rfl (fun _ _ _ h => h) (by rfl) (by assumption) ?_ ?_
          rotate_left
          · (intro w hSw; (try dsimp only at hSw); go_simp <;> with_reducible rfl)
          simp only [Act.put, List.setIfInBounds_toArray, List.set_cons_zero, List.set_cons_succ]
          refine lateTake 7 (some 51) ?_ rfl (by kernel_rfl) (by kernel_rfl) (by kernel_rfl) (by kernel_rfl) rfl (fun _ _ _ h => h) (by rfl) (by assumption) ?_ ?_
          rotate_left
          · (intro w hSw; (try dsimp only at hSw); go_simp <;> with_reducible rfl)
          simp only [Act.put, List.setIfInBounds_toArray, List.set_cons_zero, List.set_cons_succ]
          refine lateTake 8 (some 52) ?_ rfl (by kernel_rfl) (by kernel_rfl) (by kernel_rfl) (by kernel_rfl) rfl (fun _ _ _ h => h) (by rfl) (by assumption) ?_ ?_
          rotate_left
          · (intro w hSw; (try dsimp only at hSw); go_simp <;> with_reducible rfl)
          simp only [Act.put, List.setIfInBounds_toArray, List.set_cons_zero, List.set_cons_succ]
          refine lateTake 9 (some 53) ?_ rfl (by kernel_rfl) (by kernel_rfl) (by kernel_rfl) (by kernel_rfl) rfl (fun _ _ _ h => h) (by rfl) (by assumption) ?_ ?_
          rotate_left
          · (intro w hSw; (try dsimp only at hSw); go_simp <;> with_reducible rfl)
          simp only [Act.put, List.setIfInBounds_toArray, List.set_cons_zero, List.set_cons_succ]
          refine lateTake 10 (some 54) ?_ rfl (by kernel_rfl) (by kernel_rfl) (by kernel_rfl) (by kernel_rfl) rfl (fun _ _ _ h => h) (by rfl) (by assumption) ?_ ?_
          rotate_left
          · (intro w hSw; (try dsimp only at hSw); go_simp <;> with_reducible rfl)
          simp only [Act.put, List.setIfInBounds_toArray, List.set_cons_zero, List.set_cons_succ]
          refine lateTake 11 (some 55) ?_ rfl (by kernel_rfl) (by kernel_rfl) (by kernel_rfl) (by kernel_rfl) rfl (fun _ _ _ h => h) (by rfl) (by assumption) ?_ ?_
          rotate_left
          · (intro w hSw; (try dsimp only at hSw); go_simp <;> with_reducible rfl)
          simp only [Act.put, List.setIfInBounds_toArray, List.set_cons_zero, List.set_cons_succ]
          refine lateStep 12 (by kernel_rfl) rfl (by rfl) (fun K hK => ?_)
          go_simp
          refine hK.out _ _ (⟨row_cell (unhide SA).drew.box, ((unhide SA).drew.at (unhide HF)).2.2.1, ((unhide SA).drew.at (unhide HF)).2.2.2.1, ((unhide SA).drew.at (unhide HF)).2.2.2.2.1⟩) (fun hHeld2 => ?_)
          clear hK K hHeld
          have hHeld := hHeld2; clear hHeld2
          try simp only [Act.put, List.setIfInBounds_toArray, List.set_cons_zero, List.set_cons_succ]
          refine lateStep 13 (by kernel_rfl) rfl (by rfl) (fun K hK => ?_)
          go_simp
          refine (unhide QP).mono ?_
          rintro e w5 ⟨z, hz1, hz2, rfl, hc5, hg5⟩
          go_wp2_with fail
          refine hK.out _ _ (⟨row_cell ((unhide SA).drew.call hc5 hg5).box, (((unhide SA).drew.call hc5 hg5).at (unhide HF)).2.2.1, (((unhide SA).drew.call hc5 hg5).at (unhide HF)).2.2.2.1, (((unhide SA).drew.call hc5 hg5).at (unhide HF)).2.2.2.2.1⟩) (fun hHeld2 => ?_)
          clear hK K hHeld
          have hHeld := hHeld2; clear hHeld2
          try simp only [Act.put, List.setIfInBounds_toArray, List.set_cons_zero, List.set_cons_succ]
          have S6 := (unhide SA).drew.call hc5 hg5
          clear hc5 hg5
          refine lateStep 14 (by kernel_rfl) rfl (by rfl) (fun K hK => ?_)
          go_simp
          refine hK.out _ _ (hHeld) (fun hHeld2 => ?_)
          clear hK K hHeld
          have hHeld := hHeld2; clear hHeld2
          try simp only [Act.put, List.setIfInBounds_toArray, List.set_cons_zero, List.set_cons_succ]
          refine lateStep 15 (by kernel_rfl) rfl (by rfl) (fun K hK => ?_)
          go_simp
          refine hK.out _ _ (hHeld) (fun hHeld2 => ?_)
          clear hK K hHeld
          have hHeld := hHeld2; clear hHeld2
          try simp only [Act.put, List.setIfInBounds_toArray, List.set_cons_zero, List.set_cons_succ]
          have hc6 := (S6.at (unhide HF)).2.2.2.2.1
          have hz6 := (S6.at (unhide HF)).2.2.2.2.2 (q * 3 + 2)
          refine lateLast 16 (by decide) (by kernel_rfl) rfl (by rfl) (fun K hK => ?_)
          go_simp
          refine hK.out _ _ ?_
          clear hK K hHeld
          try simp only [Act.put, List.setIfInBounds_toArray, List.set_cons_zero, List.set_cons_succ]
          refine lateDone (by kernel_rfl) ?_ _
          have SZ := S6.setf (q * 3 + 2) (.int .i64 z) (by rw [List.length_set]) (fcs_kept (unhide HF) z)
          have hsz : SmallF 1048576 (l.set q ⟨f.name, f.text, z⟩) := small_set (unhide HSL) (small_at (unhide HSL) (unhide HF)).1 (small_at (unhide HSL) (unhide HF)).2
          clear S6 hc6 hz6 b4 f0 f1 f2
          have hfin := SZ.fin
          have r0 := row_cell SZ.res
          have z0 := row_frozen SZ.res
          have b0 := row_cell SZ.box
          go_wp2
          try simp only [Exit.inBlock, Exit.then]
          refine bodyPost_ret (results_cell_row rfl _ _ w.heap.size 26 _ (0, 0) _ rfl hfin.1 Try.underlying26 rfl (by kernel_rfl)) rfl ?_
          exact ⟨_, _, hsz, rfl, hfin.2.1, hfin.2.2.1, hfin.2.2.2⟩
        · obtain ⟨f, hf⟩ : ∃ f, l[q]? = some f := ⟨_, List.getElem?_eq_getElem (by have := unhide HLN; omega)⟩
          obtain ⟨g, hyg, hNl⟩ := S4.laid hf
          subst hyg
          subst hNl
          obtain ⟨hg0, hgl, f0, f1, f2, hfz⟩ := S4.at hf
          have HFZ := hide hfz
          have hqI : (q : Int) < (l.length : Int) := by omega
          have b4 := row_cell S4.box
          have HS4 := hide S4
          have HF := hide hf
          have HSL := hide hsl
          clear S4 hfz hf hsl
          obtain ⟨i0, hi, hz0, hz1, hz2⟩ := info_parts Try.infoFile
          have hl5 : l.length ≤ 1000 := (unhide HSM).1
          have g0 : w4.drew.cell? ⟨g, q * 3, none⟩ = some (.string f.name) := f0
          have g1 : w4.drew.cell? ⟨g, q * 3 + 1, none⟩ = some (.string f.text) := f1
          have g2 : w4.drew.cell? ⟨g, q * 3 + 2, none⟩ = some (.int .i64 f.kept) := f2
          have hwz : w.heap.size ≤ w4.heap.size := (unhide HS4).grown.size
          go_upto_region 14 with fail
          refine lateBegin (S := fun w' => w'.cell? ⟨bd, 0, none⟩ = some (.slice (some ⟨g, 0, none⟩) l.length yc)) 10 (by kernel_rfl) (b4) (fun hHeld => ?_)
          refine lateTake 0 (some 62) ?_ rfl (by kernel_rfl) (by kernel_rfl) (by kernel_rfl) (by kernel_rfl) rfl (fun _ _ _ h => h) (by rfl) (by assumption) ?_ ?_
          rotate_left
          · (intro w hSw; (try dsimp only at hSw); go_simp <;> with_reducible rfl)
          simp only [Act.put, List.setIfInBounds_toArray, List.set_cons_zero, List.set_cons_succ]
          refine lateTake 1 (some 63) ?_ rfl (by kernel_rfl) (by kernel_rfl) (by kernel_rfl) (by kernel_rfl) rfl (fun _ _ _ h => h) (by rfl) (by assumption) ?_ ?_
          rotate_left
          · (intro w hSw; (try dsimp only at hSw); go_simp <;> with_reducible rfl)
          simp only [Act.put, List.setIfInBounds_toArray, List.set_cons_zero, List.set_cons_succ]
          refine lateTake 2 (some 64) ?_ rfl (by kernel_rfl) (by kernel_rfl) (by kernel_rfl) (by kernel_rfl) rfl (fun _ _ _ h => h) (by rfl) (by assumption) ?_ ?_
          rotate_left
          · (intro w hSw; (try dsimp only at hSw); go_simp <;> with_reducible rfl)
          simp only [Act.put, List.setIfInBounds_toArray, List.set_cons_zero, List.set_cons_succ]
          refine lateTake 3 (some 65) ?_ rfl (by kernel_rfl) (by kernel_rfl) (by kernel_rfl) (by kernel_rfl) rfl (fun _ _ _ h => h) (by rfl) (by assumption) ?_ ?_
          rotate_left
          · (intro w hSw; (try dsimp only at hSw); go_simp <;> with_reducible rfl)
          simp only [Act.put, List.setIfInBounds_toArray, List.set_cons_zero, List.set_cons_succ]
          refine lateTake 4 (some 66) ?_ rfl (by kernel_rfl) (by kernel_rfl) (by kernel_rfl) (by kernel_rfl) rfl (fun _ _ _ h => h) (by rfl) (by assumption) ?_ ?_
          rotate_left
          · (intro w hSw; (try dsimp only at hSw); go_simp <;> with_reducible rfl)
          simp only [Act.put, List.setIfInBounds_toArray, List.set_cons_zero, List.set_cons_succ]
          refine lateTake 5 (some 67) ?_ rfl (by kernel_rfl) (by kernel_rfl) (by kernel_rfl) (by kernel_rfl) rfl (fun _ _ _ h => h) (by rfl) (by assumption) ?_ ?_
          rotate_left
          · (intro w hSw; (try dsimp only at hSw); go_simp <;> with_reducible rfl)
          simp only [Act.put, List.setIfInBounds_toArray, List.set_cons_zero, List.set_cons_succ]
          refine lateStep 6 (by kernel_rfl) rfl (by rfl) (fun K hK => ?_)
          go_simp
          refine hK.out _ _ (hHeld) (fun hHeld2 => ?_)
          clear hK K hHeld
          have hHeld := hHeld2; clear hHeld2
          try simp only [Act.put, List.setIfInBounds_toArray, List.set_cons_zero, List.set_cons_succ]
          refine lateStep 7 (by kernel_rfl) rfl (by rfl) (fun K hK => ?_)
          go_simp
          refine hK.out _ _ (cell_on ((Below.refl _ _).alloc (Nat.le_refl _) _) hHeld) (fun hHeld2 => ?_)
          clear hK K hHeld
          have hHeld := hHeld2; clear hHeld2
          try simp only [Act.put, List.setIfInBounds_toArray, List.set_cons_zero, List.set_cons_succ]
          refine lateStep 8 (by kernel_rfl) rfl (by rfl) (fun K hK => ?_)
          refine wp_append_lies _ (.tmp 63) (.tmp 69) 24 rfl w.heap.size 55 i0 _ 3 40 Try.underlying24 hi hz0 hz1 hz2 rfl (by decide) (.slice (some ⟨g, 0, none⟩) l.length yc) l.length (fcs l) rfl (World.ownsRow.alloc (unhide HS4).drew.own _) ⟨w4.heap.size, 0, none⟩ 1 1 (fc f) rfl rfl (World.news_of_block (cs := #[.string f.name, .string f.text, .int .i64 f.kept]) (t := 55) (fr := (0, 0)) (heap_alloc_new w4.drew _)) (one3F f) (by omega) (by unfold maxLen; omega) (by omega) (by simp; omega) (w4.heap.size + 1) (by simp) ?_
          intro gg cap w5 hown5 hgr5 hat5 hlt5
          refine hK.out _ _ (((unhide HS4).drew.appended (f := f) hown5 hgr5).2.1) (fun hHeld2 => ?_)
          clear hK K hHeld
          have hHeld := hHeld2; clear hHeld2
          try simp only [Act.put, List.setIfInBounds_toArray, List.set_cons_zero, List.set_cons_succ]
          obtain ⟨SZ0, k6, z6⟩ := (unhide HS4).drew.appended (f := f) hown5 hgr5
          have HSZ := hide SZ0
          clear SZ0 hown5 hgr5
          refine lateStep 9 (by kernel_rfl) rfl (by rfl) (fun K hK => ?_)
          go_simp
          refine hK.out _ _ (hHeld) (fun hHeld2 => ?_)
          clear hK K hHeld
          have hHeld := hHeld2; clear hHeld2
          try simp only [Act.put, List.setIfInBounds_toArray, List.set_cons_zero, List.set_cons_succ]
          refine lateLast 10 (by decide) (by kernel_rfl) rfl (by rfl) (fun K hK => ?_)
          go_simp
          refine hK.out _ _ ?_
          clear hK K hHeld
          try simp only [Act.put, List.setIfInBounds_toArray, List.set_cons_zero, List.set_cons_succ]
          refine lateDone (by kernel_rfl) ?_ _
          have SZ := unhide HSZ
          have hsz : SmallF 1048576 (l ++ [f]) := ⟨by simp; omega, fun x hx => by
            rcases List.mem_append.1 hx with h | h
            · exact (unhide HSL).2 x h
            · simp at h; subst h; exact small_at (unhide HSL) (unhide HF)⟩
          clear k6 z6 b4 f0 f1 f2 g0 g1 g2 HSZ
          have hfin := SZ.fin
          have r0 := row_cell SZ.res
          have z0 := row_frozen SZ.res
          have b0 := row_cell SZ.box
          go_wp2
          try simp only [Exit.inBlock, Exit.then]
          refine bodyPost_ret (results_cell_row rfl _ _ w.heap.size 26 _ (0, 0) _ rfl hfin.1 Try.underlying26 rfl (by kernel_rfl)) rfl ?_
          exact ⟨_, _, hsz, rfl, hfin.2.1, hfin.2.2.1, hfin.2.2.2⟩
        · obtain ⟨f, hf⟩ : ∃ f, l[q]? = some f := ⟨_, List.getElem?_eq_getElem (by have := unhide HLN; omega)⟩
          obtain ⟨g, hyg, hNl⟩ := S4.laid hf
          subst hyg
          subst hNl
          obtain ⟨hg0, hgl, f0, f1, f2, hfz⟩ := S4.at hf
          have HFZ := hide hfz
          have hqI : (q : Int) < (l.length : Int) := by omega
          have b4 := row_cell S4.box
          have HS4 := hide S4
          have HF := hide hf
          have HSL := hide hsl
          clear S4 hfz hf hsl
          have SA := hide ((unhide HS4).up ((Below.refl w4.heap.size w4).alloc (Nat.le_refl _) (.cells #[.string ⟨#[]⟩, .string ⟨#[49, 50, 51, 52, 53, 54, 55, 56]⟩, .string ⟨#[49, 50, 51, 52, 53, 54, 55, 56, 57]⟩] 9)))
          have QP : Hid (Calls Try.prog 33 #[.pointer (some ⟨c, 0, none⟩), .slice (some ⟨w4.heap.size, 0, none⟩) 3 3] (w4.alloc (.cells #[.string ⟨#[]⟩, .string ⟨#[49, 50, 51, 52, 53, 54, 55, 56]⟩, .string ⟨#[49, 50, 51, 52, 53, 54, 55, 56, 57]⟩] 9)).drew fun e w' => ∃ z : ByteArray, z.size ≤ 9 ∧ e = .returned (.string z) ∧ Cur B w' c ∧ (w4.alloc (.cells #[.string ⟨#[]⟩, .string ⟨#[49, 50, 51, 52, 53, 54, 55, 56]⟩, .string ⟨#[49, 50, 51, 52, 53, 54, 55, 56, 57]⟩] 9)).drew.grownBy w' (some c)) := hide (by
            refine l01Pick_any (fun z => z.size ≤ 9) B c w4.heap.size 3 3 _ (unhide SA).drew.cur (by omega) (by omega) (by have := (unhide HS4).cur.lt; omega) (by show w4.heap.size < (w4.alloc _).heap.size; simp) (fun j hj => ?_)
            match j, hj with
            | 0, _ => exact ⟨_, by decide, cell_of_row _ _ 0 _ _ (0, 0) (heap_alloc_new w4 _)⟩
            | 1, _ => exact ⟨_, by decide, cell_of_row _ _ 1 _ _ (0, 0) (heap_alloc_new w4 _)⟩
            | 2, _ => exact ⟨_, by decide, cell_of_row _ _ 2 _ _ (0, 0) (heap_alloc_new w4 _)⟩)
          go_upto_region 16 with fail
          refine lateBegin (S := fun w' => w'.cell? ⟨bd, 0, none⟩ = some (.slice (some ⟨g, 0, none⟩) l.length yc) ∧ w'.cell? ⟨g, q * 3, none⟩ = some (.string f.name) ∧ w'.cell? ⟨g, q * 3 + 1, none⟩ = some (.string f.text) ∧ w'.cell? ⟨g, q * 3 + 2, none⟩ = some (.int .i64 f.kept)) 8 (by kernel_rfl) (⟨b4, f0, f1, f2⟩) (fun hHeld => ?_)
          refine lateTake 0 (some 74) ?_ rfl (by kernel_rfl) (by kernel_rfl) (by kernel_rfl) (by kernel_rfl) rfl (fun _ _ _ h => h) (by rfl) (by assumption) ?_ ?_
          rotate_left
          · (intro w hSw; (try dsimp only at hSw); go_simp <;> with_reducible rfl)
          simp only [Act.put, List.setIfInBounds_toArray, List.set_cons_zero, List.set_cons_succ]
          refine lateTake 1 (some 75) ?_ rfl (by kernel_rfl) (by kernel_rfl) (by kernel_rfl) (by kernel_rfl) rfl (fun _ _ _ h => h) (by rfl) (by assumption) ?_ ?_
          rotate_left
          · (intro w hSw; (try dsimp only at hSw); go_simp <;> with_reducible rfl)
          simp only [Act.put, List.setIfInBounds_toArray, List.set_cons_zero, List.set_cons_succ]
          refine lateTake 2 (some 76) ?_ rfl (by kernel_rfl) (by kernel_rfl) (by kernel_rfl) (by kernel_rfl) rfl (fun _ _ _ h => h) (by rfl) (by assumption) ?_ ?_
          rotate_left
          · (intro w hSw; (try dsimp only at hSw); go_simp <;> with_reducible rfl)
          simp only [Act.put, List.setIfInBounds_toArray, List.set_cons_zero, List.set_cons_succ]
          refine lateTake 3 (some 77) ?_ rfl (by kernel_rfl) (by kernel_rfl) (by kernel_rfl) (by kernel_rfl) rfl (fun _ _ _ h => h) (by rfl) (by assumption) ?_ ?_
          rotate_left
          · (intro w hSw; (try dsimp only at hSw); go_simp <;> with_reducible rfl)
          simp only [Act.put, List.setIfInBounds_toArray, List.set_cons_zero, List.set_cons_succ]
          refine lateStep 4 (by kernel_rfl) rfl (by rfl) (fun K hK => ?_)
          go_simp
          refine hK.out _ _ (⟨row_cell (unhide SA).drew.box, ((unhide SA).drew.at (unhide HF)).2.2.1, ((unhide SA).drew.at (unhide HF)).2.2.2.1, ((unhide SA).drew.at (unhide HF)).2.2.2.2.1⟩) (fun hHeld2 => ?_)
          clear hK K hHeld
          have hHeld := hHeld2; clear hHeld2
          try simp only [Act.put, List.setIfInBounds_toArray, List.set_cons_zero, List.set_cons_succ]
          refine lateStep 5 (by kernel_rfl) rfl (by rfl) (fun K hK => ?_)
          go_simp
          refine (unhide QP).mono ?_
          rintro e w5 ⟨z, hz, rfl, hc5, hg5⟩
          go_wp2_with fail
          refine hK.out _ _ (⟨row_cell ((unhide SA).drew.call hc5 hg5).box, (((unhide SA).drew.call hc5 hg5).at (unhide HF)).2.2.1, (((unhide SA).drew.call hc5 hg5).at (unhide HF)).2.2.2.1, (((unhide SA).drew.call hc5 hg5).at (unhide HF)).2.2.2.2.1⟩) (fun hHeld2 => ?_)
          clear hK K hHeld
          have hHeld := hHeld2; clear hHeld2
          try simp only [Act.put, List.setIfInBounds_toArray, List.set_cons_zero, List.set_cons_succ]
          have S6 := (unhide SA).drew.call hc5 hg5
          clear hc5 hg5
          refine lateStep 6 (by kernel_rfl) rfl (by rfl) (fun K hK => ?_)
          go_simp
          refine hK.out _ _ (hHeld) (fun hHeld2 => ?_)
          clear hK K hHeld
          have hHeld := hHeld2; clear hHeld2
          try simp only [Act.put, List.setIfInBounds_toArray, List.set_cons_zero, List.set_cons_succ]
          refine lateStep 7 (by kernel_rfl) rfl (by rfl) (fun K hK => ?_)
          go_simp
          refine hK.out _ _ (hHeld) (fun hHeld2 => ?_)
          clear hK K hHeld
          have hHeld := hHeld2; clear hHeld2
          try simp only [Act.put, List.setIfInBounds_toArray, List.set_cons_zero, List.set_cons_succ]
          have hc6 := (S6.at (unhide HF)).2.2.1
          have hz6 := (S6.at (unhide HF)).2.2.2.2.2 (q * 3)
          refine lateLast 8 (by decide) (by kernel_rfl) rfl (by rfl) (fun K hK => ?_)
          go_simp
          refine hK.out _ _ ?_
          clear hK K hHeld
          try simp only [Act.put, List.setIfInBounds_toArray, List.set_cons_zero, List.set_cons_succ]
          refine lateDone (by kernel_rfl) ?_ _
          have SZ := S6.setf (q * 3) (.string z) (by rw [List.length_set]) (fcs_name (unhide HF) z)
          have hsz : SmallF 1048576 (l.set q ⟨z, f.text, f.kept⟩) := small_set (unhide HSL) (by show z.size ≤ 1048576; omega) (small_at (unhide HSL) (unhide HF)).2
          clear S6 hc6 hz6 b4 f0 f1 f2
          have hfin := SZ.fin
          have r0 := row_cell SZ.res
          have z0 := row_frozen SZ.res
          have b0 := row_cell SZ.box
          go_wp2
          try simp only [Exit.inBlock, Exit.then]
          refine bodyPost_ret (results_cell_row rfl _ _ w.heap.size 26 _ (0, 0) _ rfl hfin.1 Try.underlying26 rfl (by kernel_rfl)) rfl ?_
          exact ⟨_, _, hsz, rfl, hfin.2.1, hfin.2.2.1, hfin.2.2.2⟩
        · obtain ⟨i0, hi, hz0, hz1, hz2⟩ := info_parts Try.infoFile
          have hwz : w.heap.size ≤ w4.heap.size := S4.grown.size
          have SA := S4.up ((Below.refl w4.heap.size w4).alloc (Nat.le_refl _) (.cells #[] 55))
          have ba := row_cell SA.box
          have za := row_frozen SA.box
          have ho0 : OwnF w.heap.size (w4.alloc (.cells #[] 55)) (.slice (some ⟨w4.heap.size, 0, none⟩) 0 0) [] := World.ownsRow_lit w4 #[] 0 hwz (Nat.zero_le _) rfl
          have S5 := hide (SA.setb ho0)
          clear S4 SA ho0
          go_wp2
          revert S5
          generalize ((w4.alloc (.cells #[] 55)).setCell ⟨bd, 0, none⟩ (.slice (some ⟨w4.heap.size, 0, none⟩) 0 0)) = w5
          intro S5
          clear ba za
          go_loopw [7] (fun i wr => ∃ (k2 : Nat) (l2 : List Fl) (ov2 : Value), k2 ≤ 31 ∧ i = .int .i64 k2 ∧ l2.length ≤ k2 ∧ SmallF 1000 l2 ∧ DS B c w wr bd ov2 l2) (fun i _ => 31 - (intOf i).toNat)
          case atStart => exact ⟨0, [], _, by omega, rfl, Nat.zero_le _, ⟨Nat.zero_le _, fun f hf => by cases hf⟩, unhide S5⟩
          case round =>
            obtain ⟨k2, l2, ov2, hk2, rfl, hlk2, hsm2, S6⟩ := hrel
            have HSM2 := hide hsm2
            clear hsm2 S5
            go_wp2_with fail
            refine (l01Below_any B c 2 _ S6.cur (by omega) (by omega)).mono ?_
            rintro e w6 ⟨x2, hx2, rfl, hc6, hg6⟩
            have S7 := S6.call hc6 hg6
            clear S6 hc6 hg6
            have hwz7 : w.heap.size ≤ w6.heap.size := S7.grown.size
            by_cases hkx : k2 < 30 + x2
            · have hkI : (k2 : Int) < 30 + (x2 : Int) := by omega
              have hwk : IntKind.i64.wrap (100 + (k2 : Int)) = 100 + (k2 : Int) := by rw [IntKind.wrap_i64]; omega
              have b6 := row_cell S7.box
              have HS7 := hide S7
              clear S7
              have hil := Lib.itoa_length_le (100 + (k2 : Int)) (by omega) (by omega)
              obtain ⟨nm2, hnm2⟩ : ∃ n : ByteArray, n = (⟨#[102]⟩ : ByteArray) ++ (⟨(Lib.itoa (100 + (k2 : Int))).toArray⟩ : ByteArray) := ⟨_, rfl⟩
              have hnm : nm2.size ≤ 22 := by
                rw [hnm2, ByteArray.size_append]
                have e1 : (⟨(Lib.itoa (100 + (k2 : Int))).toArray⟩ : ByteArray).size = (Lib.itoa (100 + (k2 : Int))).length := by show (Lib.itoa (100 + (k2 : Int))).toArray.size = _; simp
                have e2 : (⟨#[102]⟩ : ByteArray).size = 1 := rfl
                omega
              have HEQ := hide hnm2
              clear hnm2
              have HNM := hide hnm
              have HIL := hide hil
              clear hnm hil
              go_upto_region 22 with fail
              refine lateBegin (S := fun w' => w'.cell? ⟨bd, 0, none⟩ = some ov2) 10 (by kernel_rfl) (b6) (fun hHeld => ?_)
              refine lateTake 0 (some 93) ?_ rfl (by kernel_rfl) (by kernel_rfl) (by kernel_rfl) (by kernel_rfl) rfl (fun _ _ _ h => h) (by rfl) (by assumption) ?_ ?_
              rotate_left
              · (intro w hSw; (try dsimp only at hSw); go_simp <;> with_reducible rfl)
              simp only [Act.put, List.setIfInBounds_toArray, List.set_cons_zero, List.set_cons_succ]
              refine lateTake 1 (some 94) ?_ rfl (by kernel_rfl) (by kernel_rfl) (by kernel_rfl) (by kernel_rfl) rfl (fun _ _ _ h => h) (by rfl) (by assumption) ?_ ?_
              rotate_left
              · (intro w hSw; (try dsimp only at hSw); go_simp <;> with_reducible rfl)
              simp only [Act.put, List.setIfInBounds_toArray, List.set_cons_zero, List.set_cons_succ]
              refine lateTake 2 (some 95) ?_ rfl (by kernel_rfl) (by kernel_rfl) (by kernel_rfl) (by kernel_rfl) rfl (fun _ _ _ h => h) (by rfl) (by assumption) ?_ ?_
              rotate_left
              · (intro w hSw; (try dsimp only at hSw); go_simp <;> with_reducible rfl)
              simp only [Act.put, List.setIfInBounds_toArray, List.set_cons_zero, List.set_cons_succ]
              refine lateTake 3 (some 96) ?_ rfl (by kernel_rfl) (by kernel_rfl) (by kernel_rfl) (by kernel_rfl) rfl (fun _ _ _ h => h) (by rfl) (by assumption) ?_ ?_
              rotate_left
              · (intro w hSw; (try dsimp only at hSw); go_simp <;> with_reducible rfl)
              simp only [Act.put, List.setIfInBounds_toArray, List.set_cons_zero, List.set_cons_succ]
              refine lateStep 4 (by kernel_rfl) rfl (by rfl) (fun K hK => ?_)
              go_simp
              refine (spec_Decimal_any (100 + (k2 : Int)) w6.drew (by omega) (by omega)).mono ?_
              rintro e w7 ⟨rfl, hb7⟩
              go_wp2_with fail
              refine hK.out _ _ (cell_on (w := w6.drew) hb7 hHeld) (fun hHeld2 => ?_)
              clear hK K hHeld
              have hHeld := hHeld2; clear hHeld2
              try simp only [Act.put, List.setIfInBounds_toArray, List.set_cons_zero, List.set_cons_succ]
              have S8 := (unhide HS7).drew.up hb7
              have hwz8 : w.heap.size ≤ w7.heap.size := S8.grown.size
              refine lateStep 5 (by kernel_rfl) rfl (by rfl) (fun K hK => ?_)
              go_simp
              rw [if_neg (by have := unhide HIL; omega)]
              rw [← unhide HEQ]
              go_simp
              refine hK.out _ _ (hHeld) (fun hHeld2 => ?_)
              clear hK K hHeld
              have hHeld := hHeld2
              clear hHeld2
              try simp only [Act.put, List.setIfInBounds_toArray, List.set_cons_zero, List.set_cons_succ]
              refine lateTake 6 (some 99) ?_ rfl (by kernel_rfl) (by kernel_rfl) (by kernel_rfl) (by kernel_rfl) rfl (fun _ _ _ h => h) (by rfl) (by assumption) ?_ ?_
              rotate_left
              · (intro w hSw; (try dsimp only at hSw); go_simp <;> with_reducible rfl)
              simp only [Act.put, List.setIfInBounds_toArray, List.set_cons_zero, List.set_cons_succ]
              refine lateStep 7 (by kernel_rfl) rfl (by rfl) (fun K hK => ?_)
              go_simp
              refine hK.out _ _ (cell_on ((Below.refl _ _).alloc (Nat.le_refl _) _) hHeld) (fun hHeld2 => ?_)
              clear hK K hHeld
              have hHeld := hHeld2; clear hHeld2
              try simp only [Act.put, List.setIfInBounds_toArray, List.set_cons_zero, List.set_cons_succ]
              refine lateStep 8 (by kernel_rfl) rfl (by rfl) (fun K hK => ?_)
              refine wp_append_lies _ (.tmp 94) (.tmp 100) 24 rfl w.heap.size 55 i0 _ 3 40 Try.underlying24 hi hz0 hz1 hz2 rfl (by decide) ov2 l2.length (fcs l2) rfl (World.ownsRow.alloc S8.own _) ⟨w7.heap.size, 0, none⟩ 1 1 (fc ⟨nm2, ⟨#[]⟩, 0⟩) rfl rfl (World.news_of_block (cs := #[.string nm2, .string ⟨#[]⟩, .int .i64 0]) (t := 55) (fr := (0, 0)) (heap_alloc_new w7 _)) (one3F _) (by omega) (by unfold maxLen; omega) (by omega) (by simp; omega) (w7.heap.size + 1) (by simp) ?_
              intro gg cap w8 hown8 hgr8 hat8 hlt8
              refine hK.out _ _ ((S8.appended (f := ⟨nm2, ⟨#[]⟩, 0⟩) hown8 hgr8).2.1) (fun hHeld2 => ?_)
              clear hK K hHeld
              have hHeld := hHeld2; clear hHeld2
              try simp only [Act.put, List.setIfInBounds_toArray, List.set_cons_zero, List.set_cons_succ]
              obtain ⟨SZ0, k6, z6⟩ := S8.appended (f := ⟨nm2, ⟨#[]⟩, 0⟩) hown8 hgr8
              have HSZ := hide SZ0
              clear SZ0 hown8 hgr8 S8
              refine lateStep 9 (by kernel_rfl) rfl (by rfl) (fun K hK => ?_)
              go_simp
              refine hK.out _ _ (hHeld) (fun hHeld2 => ?_)
              clear hK K hHeld
              have hHeld := hHeld2; clear hHeld2
              try simp only [Act.put, List.setIfInBounds_toArray, List.set_cons_zero, List.set_cons_succ]
              refine lateLast 10 (by decide) (by kernel_rfl) rfl (by rfl) (fun K hK => ?_)
              go_simp
              refine hK.out _ _ ?_
              clear hK K hHeld
              try simp only [Act.put, List.setIfInBounds_toArray, List.set_cons_zero, List.set_cons_succ]
              refine lateDone (by kernel_rfl) ?_ _
              have hsz : SmallF 1000 (l2 ++ [⟨nm2, ⟨#[]⟩, 0⟩]) := ⟨by simp; omega, fun x hx => by
                rcases List.mem_append.1 hx with h | h
                · exact (unhide HSM2).2 x h
                · simp only [List.mem_singleton] at h
                  subst h
                  exact ⟨Nat.le_trans (unhide HNM) (by omega), Nat.zero_le _⟩⟩
              have HSN := hide hsz
              clear hsz
              go_wp2
              go_roundw
              case rel => exact ⟨k2 + 1, _, _, by omega, by go_num, by simp; omega, unhide HSN, unhide HSZ⟩
              case measure => simp [intOf]; omega
            · have hkI : ¬ (k2 : Int) < 30 + (x2 : Int) := by omega
              have SZ := S7
              have hsz : SmallF 1048576 l2 := small_wide (unhide HSM2) (by omega)
              obtain ⟨xa, xn, xc, hov⟩ := own_shape SZ.own
              subst hov
              have hfin := SZ.fin
              have r0 := row_cell SZ.res
              have z0 := row_frozen SZ.res
              have b0 := row_cell SZ.box
              go_wp2
              try simp only [Exit.inBlock, Exit.then]
              refine bodyPost_ret (results_cell_row rfl _ _ w.heap.size 26 _ (0, 0) _ rfl hfin.1 Try.underlying26 rfl (by kernel_rfl)) rfl ?_
              exact ⟨_, _, hsz, rfl, hfin.2.1, hfin.2.2.1, hfin.2.2.2⟩
        · obtain ⟨f, hf⟩ : ∃ f, l[q]? = some f := ⟨_, List.getElem?_eq_getElem (by have := unhide HLN; omega)⟩
          obtain ⟨g, hyg, hNl⟩ := S4.laid hf
          subst hyg
          subst hNl
          obtain ⟨hg0, hgl, f0, f1, f2, hfz⟩ := S4.at hf
          have HFZ := hide hfz
          have hqI : (q : Int) < (l.length : Int) := by omega
          have b4 := row_cell S4.box
          have HS4 := hide S4
          have HF := hide hf
          have HSL := hide hsl
          clear S4 hfz hf hsl
          have Q3 := hide (fun W hW => l01Below_any B c 3 W hW (by omega) (by omega))
          go_upto_region 24 with fail
          refine lateBegin (S := fun w' => w'.cell? ⟨bd, 0, none⟩ = some (.slice (some ⟨g, 0, none⟩) l.length yc) ∧ w'.cell? ⟨g, q * 3, none⟩ = some (.string f.name) ∧ w'.cell? ⟨g, q * 3 + 1, none⟩ = some (.string f.text) ∧ w'.cell? ⟨g, q * 3 + 2, none⟩ = some (.int .i64 f.kept)) 9 (by kernel_rfl) (⟨b4, f0, f1, f2⟩) (fun hHeld => ?_)
          refine lateTake 0 (some 105) ?_ rfl (by kernel_rfl) (by kernel_rfl) (by kernel_rfl) (by kernel_rfl) rfl (fun _ _ _ h => h) (by rfl) (by assumption) ?_ ?_
          rotate_left
          · (intro w hSw; (try dsimp only at hSw); go_simp <;> with_reducible rfl)
          simp only [Act.put, List.setIfInBounds_toArray, List.set_cons_zero, List.set_cons_succ]
          refine lateTake 1 (some 106) ?_ rfl (by kernel_rfl) (by kernel_rfl) (by kernel_rfl) (by kernel_rfl) rfl (fun _ _ _ h => h) (by rfl) (by assumption) ?_ ?_
          rotate_left
          · (intro w hSw; (try dsimp only at hSw); go_simp <;> with_reducible rfl)
          simp only [Act.put, List.setIfInBounds_toArray, List.set_cons_zero, List.set_cons_succ]
          refine lateTake 2 (some 107) ?_ rfl (by kernel_rfl) (by kernel_rfl) (by kernel_rfl) (by kernel_rfl) rfl (fun _ _ _ h => h) (by rfl) (by assumption) ?_ ?_
          rotate_left
          · (intro w hSw; (try dsimp only at hSw); go_simp <;> with_reducible rfl)
          simp only [Act.put, List.setIfInBounds_toArray, List.set_cons_zero, List.set_cons_succ]
          refine lateTake 3 (some 108) ?_ rfl (by kernel_rfl) (by kernel_rfl) (by kernel_rfl) (by kernel_rfl) rfl (fun _ _ _ h => h) (by rfl) (by assumption) ?_ ?_
          rotate_left
          · (intro w hSw; (try dsimp only at hSw); go_simp <;> with_reducible rfl)
          simp only [Act.put, List.setIfInBounds_toArray, List.set_cons_zero, List.set_cons_succ]
          refine lateStep 4 (by kernel_rfl) rfl (by rfl) (fun K hK => ?_)
          go_simp
          refine (unhide Q3 w4.drew (unhide HS4).drew.cur).mono ?_
          rintro e w5 ⟨z, hz, rfl, hc5, hg5⟩
          go_wp2_with fail
          refine hK.out _ _ (⟨row_cell ((unhide HS4).drew.call hc5 hg5).box, (((unhide HS4).drew.call hc5 hg5).at (unhide HF)).2.2.1, (((unhide HS4).drew.call hc5 hg5).at (unhide HF)).2.2.2.1, (((unhide HS4).drew.call hc5 hg5).at (unhide HF)).2.2.2.2.1⟩) (fun hHeld2 => ?_)
          clear hK K hHeld
          have hHeld := hHeld2; clear hHeld2
          try simp only [Act.put, List.setIfInBounds_toArray, List.set_cons_zero, List.set_cons_succ]
          have S5 := (unhide HS4).drew.call hc5 hg5
          clear hc5 hg5
          have hwz : IntKind.i64.wrap (19999 + (z : Int)) = ((19999 + z : Nat) : Int) := by rw [IntKind.wrap_i64]; omega
          refine lateTake 5 (some 110) ?_ rfl (by kernel_rfl) (by kernel_rfl) (by kernel_rfl) (by kernel_rfl) rfl (fun _ _ _ h => h) (by rfl) (by assumption) ?_ ?_
          rotate_left
          · (intro w hSw; (try dsimp only at hSw); go_simp <;> with_reducible rfl)
          simp only [Act.put, List.setIfInBounds_toArray, List.set_cons_zero, List.set_cons_succ]
          refine lateStep 6 (by kernel_rfl) rfl (by rfl) (fun K hK => ?_)
          go_simp
          refine (l01Long_any (19999 + z) 65 w5 (by omega) (by omega)).mono ?_
          rintro e w6 ⟨tl, htl, rfl, hb6⟩
          go_wp2_with fail
          refine hK.out _ _ (⟨row_cell (S5.up hb6).box, ((S5.up hb6).at (unhide HF)).2.2.1, ((S5.up hb6).at (unhide HF)).2.2.2.1, ((S5.up hb6).at (unhide HF)).2.2.2.2.1⟩) (fun hHeld2 => ?_)
          clear hK K hHeld
          have hHeld := hHeld2; clear hHeld2
          try simp only [Act.put, List.setIfInBounds_toArray, List.set_cons_zero, List.set_cons_succ]
          have S6 := S5.up hb6
          clear S5 hb6
          refine lateStep 7 (by kernel_rfl) rfl (by rfl) (fun K hK => ?_)
          go_simp
          refine hK.out _ _ (hHeld) (fun hHeld2 => ?_)
          clear hK K hHeld
          have hHeld := hHeld2; clear hHeld2
          try simp only [Act.put, List.setIfInBounds_toArray, List.set_cons_zero, List.set_cons_succ]
          refine lateStep 8 (by kernel_rfl) rfl (by rfl) (fun K hK => ?_)
          go_simp
          refine hK.out _ _ (hHeld) (fun hHeld2 => ?_)
          clear hK K hHeld
          have hHeld := hHeld2; clear hHeld2
          try simp only [Act.put, List.setIfInBounds_toArray, List.set_cons_zero, List.set_cons_succ]
          have hc6 := (S6.at (unhide HF)).2.2.2.1
          have hz6 := (S6.at (unhide HF)).2.2.2.2.2 (q * 3 + 1)
          refine lateLast 9 (by decide) (by kernel_rfl) rfl (by rfl) (fun K hK => ?_)
          go_simp
          refine hK.out _ _ ?_
          clear hK K hHeld
          try simp only [Act.put, List.setIfInBounds_toArray, List.set_cons_zero, List.set_cons_succ]
          refine lateDone (by kernel_rfl) ?_ _
          have hl2 : (⟨tl.toArray⟩ : ByteArray).size ≤ 1048576 := by show tl.toArray.size ≤ 1048576; rw [List.size_toArray]; omega
          have SZ := S6.setf (q * 3 + 1) (.string ⟨tl.toArray⟩) (by rw [List.length_set]) (fcs_text (unhide HF) ⟨tl.toArray⟩)
          have hsz : SmallF 1048576 (l.set q ⟨f.name, ⟨tl.toArray⟩, f.kept⟩) := small_set (unhide HSL) (small_at (unhide HSL) (unhide HF)).1 hl2
          clear S6 hc6 hz6 b4 f0 f1 f2
          have hfin := SZ.fin
          have r0 := row_cell SZ.res
          have z0 := row_frozen SZ.res
          have b0 := row_cell SZ.box
          go_wp2
          try simp only [Exit.inBlock, Exit.then]
          refine bodyPost_ret (results_cell_row rfl _ _ w.heap.size 26 _ (0, 0) _ rfl hfin.1 Try.underlying26 rfl (by kernel_rfl)) rfl ?_
          exact ⟨_, _, hsz, rfl, hfin.2.1, hfin.2.2.1, hfin.2.2.2⟩
        · have hfin := S4.fin
          have r0 := row_cell S4.res
          have z0 := row_frozen S4.res
          have b0 := row_cell S4.box
          go_wp2
          try simp only [Exit.inBlock, Exit.then]
          refine bodyPost_ret (results_cell_row rfl _ _ w.heap.size 26 _ (0, 0) _ rfl hfin.1 Try.underlying26 rfl (by kernel_rfl)) rfl ?_
          exact ⟨_, l, hsl, rfl, hfin.2.1, hfin.2.2.1, hfin.2.2.2⟩
end Go.Proofs.Ytnlcknklghalkaa

/- The draws of the laws: a disk, acts, a place, what is left. -/
namespace Go.Proofs.Ytnlcknklghalkaa
open Go.RowKit
open Plain
set_option linter.unusedVariables false
set_option linter.unusedSimpArgs false

/-- The draw under way: the answer's own box, the disk's box, the cursor. -/
structure QS (B c : Nat) (w W : World) (b7 : Nat) (v : Value) (l : List Fl) : Prop where
  res : W.heap[w.heap.size]? = some (.cells #[.slice none 0 0] 26 (0, 0))
  box : W.heap[b7]? = some (.cells #[v] 26 (0, 0))
  own : OwnF w.heap.size W v l
  cur : Cur B W c
  below : Below w.heap.size w W
  ltc : w.heap.size < c
namespace QS
variable {B c b7 : Nat} {w W W' : World} {v : Value} {l : List Fl}
theorem call (h : QS B c w W b7 v l) (hc : Cur B W' c) (hg : W.grownBy W' (some c)) : QS B c w W' b7 v l :=
  have h1 := h.ltc
  ⟨box_cur h.res h.cur (by decide) hg, box_cur h.box h.cur (by decide) hg, own_cur h.own h.cur (by decide) hg, hc, h.below.grown hg h.below.size (fun k hk => by cases hk; omega), h1⟩
theorem drew (h : QS B c w W b7 v l) : QS B c w W.drew b7 v l := ⟨h.res, h.box, h.own, h.cur, h.below.drew, h.ltc⟩
end QS

set_option maxHeartbeats 4000000 in
set_option maxRecDepth 100000 in
theorem DrawCutActs_any (B len cap : Nat) (a : Option Addr) (w : World) (ha : Arg B w a len) (hB : B ≤ w.heap.size) :
    Calls Try.prog 5 #[.slice a len cap] w fun e w' => ∃ (v u x : Value) (l : List Fl) (la : List Ac) (z : Int) (left : List Int), SmallF 1048576 l ∧ la.length ≤ 9 ∧ (∀ a ∈ la, SmallA 1048576 a) ∧ -9223372036854775808 ≤ z ∧ z ≤ 9223372036854775807 ∧ left.length ≤ 6 ∧
      e = .returned (.tuple #[.agg #[v], u, .int .i64 z, x]) ∧ OwnF w.heap.size w' v l ∧ OwnA w.heap.size w' u la ∧ OwnI w.heap.size w' x left ∧ Below w.heap.size w w' := by
  have hb0 := (Below.refl w.heap.size w).alloc (Nat.le_refl _) (.cells #[.slice none 0 0] 26)
  have hr0 : (w.alloc (.cells #[.slice none 0 0] 26)).heap[w.heap.size]? = some (.cells #[.slice none 0 0] 26 (0, 0)) := heap_alloc_new _ _
  have hz0 : (w.alloc (.cells #[.slice none 0 0] 26)).heap.size = w.heap.size + 1 := by simp
  have QN := hide (l01New_any B len cap a (w.alloc (.cells #[.slice none 0 0] 26)) (ha.below (hb0.mono hB)) (by omega))
  rw [hz0] at QN
  clear ha
  go_enter Try.func5, Try.ntmps5
  go_wp2_with fail
  refine (unhide QN).mono ?_
  rintro e w1 ⟨rfl, hc1, hg1⟩
  have hbel1 : Below w.heap.size w w1 := hb0.grown hg1 (by omega) (fun k hk => by cases hk)
  have hR1 := (hg1.block w.heap.size (by omega) (by simp)).trans hr0
  clear hb0 hr0 hz0 QN hg1
  go_wp2_with fail
  refine (l03Disk_any B (w.heap.size + 1) w1 hc1).mono ?_
  rintro e w2 ⟨v, l, hsl, rfl, hov, hc2, hg2⟩
  have hbel2 : Below w.heap.size w w2 := hbel1.grown hg2 hbel1.size (fun k hk => by cases hk; omega)
  have hR2 := box_cur hR1 hc1 (by decide) hg2
  have hov2 : OwnF w.heap.size w2 v l := own_based hov hbel1.size
  clear hR1 hc1 hg2 hov hbel1
  obtain ⟨va, vn, vc, hvs⟩ := own_shape hov2
  subst hvs
  go_upto_region 3 with fail
  have hb3 := (Below.refl w2.heap.size w2).alloc (Nat.le_refl _) (.cells #[.slice va vn vc] 26)
  have S3 : QS B (w.heap.size + 1) w (w2.alloc (.cells #[.slice va vn vc] 26)) w2.heap.size (.slice va vn vc) l :=
    ⟨row_up hR2 hb3, heap_alloc_new _ _, own_stays hov2 hb3, hc2.up hb3, hbel2.trans (hb3.mono hbel2.size), by omega⟩
  have hb7r : w.heap.size < w2.heap.size := row_lt hR2
  clear hR2 hov2 hc2 hbel2 hb3
  revert S3 hb7r
  generalize w2.alloc (.cells #[.slice va vn vc] 26) = w3
  generalize w2.heap.size = b7
  intro S3 hb7r
  have hb7 := row_cell S3.box
  go_wp2_with fail
  refine (l03Acts_any B (w.heap.size + 1) w.heap.size l (.slice va vn vc) w3 S3.cur hsl S3.own).mono ?_
  rintro e w4 ⟨u, la, hla, hall, rfl, hu, hc4, hg4⟩
  have hu4 : OwnA w.heap.size w4 u la := own_based hu S3.below.size
  have S4 := S3.call hc4 hg4
  clear S3 hu hc4 hg4 hb7
  obtain ⟨ua, un, uc, hus⟩ := own_shape hu4
  have hun : un = la.length := by
    rcases hu4.2 with ⟨h, h0⟩ | ⟨g, cp, cu, h, _⟩
    · rw [hus] at h; injection h with _ h _; omega
    · rw [hus] at h; injection h with _ h _
  subst hun
  subst hus
  have HALL := hide hall
  have HU := hide hu4
  have HSL := hide hsl
  clear hall hsl hu4
  have b4 := row_cell S4.box
  have HS4 := hide S4
  clear S4
  have hwl : IntKind.i64.wrap ((la.length : Int) + 1) = ((la.length + 1 : Nat) : Int) := by rw [IntKind.wrap_i64]; omega
  have QP := hide (fun W hW => l01Place_any B (w.heap.size + 1) (la.length + 1) W hW (by omega) (by omega))
  go_upto_region 4 with fail
  refine lateBegin (S := fun w' => w'.cell? ⟨b7, 0, none⟩ = some (.slice va vn vc)) 13 (by kernel_rfl) (b4) (fun hHeld => ?_)
  refine lateTake 0 (some 16) ?_ rfl (by kernel_rfl) (by kernel_rfl) (by kernel_rfl) (by kernel_rfl) rfl (fun _ _ _ h => h) (by rfl) (by assumption) ?_ ?_
  rotate_left
  · (intro w hSw; (try dsimp only at hSw); go_simp <;> with_reducible rfl)
  simp only [Act.put, List.setIfInBounds_toArray, List.set_cons_zero, List.set_cons_succ]
  refine lateTake 1 (some 17) ?_ rfl (by kernel_rfl) (by kernel_rfl) (by kernel_rfl) (by kernel_rfl) rfl (fun _ _ _ h => h) (by rfl) (by assumption) ?_ ?_
  rotate_left
  · (intro w hSw; (try dsimp only at hSw); go_simp <;> with_reducible rfl)
  simp only [Act.put, List.setIfInBounds_toArray, List.set_cons_zero, List.set_cons_succ]
  refine lateTake 2 (some 18) ?_ rfl (by kernel_rfl) (by kernel_rfl) (by kernel_rfl) (by kernel_rfl) rfl (fun _ _ _ h => h) (by rfl) (by assumption) ?_ ?_
  rotate_left
  · (intro w hSw; (try dsimp only at hSw); go_simp <;> with_reducible rfl)
  simp only [Act.put, List.setIfInBounds_toArray, List.set_cons_zero, List.set_cons_succ]
  refine lateTake 3 (some 19) ?_ rfl (by kernel_rfl) (by kernel_rfl) (by kernel_rfl) (by kernel_rfl) rfl (fun _ _ _ h => h) (by rfl) (by assumption) ?_ ?_
  rotate_left
  · (intro w hSw; (try dsimp only at hSw); go_simp <;> with_reducible rfl)
  simp only [Act.put, List.setIfInBounds_toArray, List.set_cons_zero, List.set_cons_succ]
  refine lateTake 4 (some 20) ?_ rfl (by kernel_rfl) (by kernel_rfl) (by kernel_rfl) (by kernel_rfl) rfl (fun _ _ _ h => h) (by rfl) (by assumption) ?_ ?_
  rotate_left
  · (intro w hSw; (try dsimp only at hSw); go_simp <;> with_reducible rfl)
  simp only [Act.put, List.setIfInBounds_toArray, List.set_cons_zero, List.set_cons_succ]
  refine lateTake 5 (some 21) ?_ rfl (by kernel_rfl) (by kernel_rfl) (by kernel_rfl) (by kernel_rfl) rfl (fun _ _ _ h => h) (by rfl) (by assumption) ?_ ?_
  rotate_left
  · (intro w hSw; (try dsimp only at hSw); go_simp <;> with_reducible rfl)
  simp only [Act.put, List.setIfInBounds_toArray, List.set_cons_zero, List.set_cons_succ]
  refine lateTake 7 (some 23) ?_ rfl (by kernel_rfl) (by kernel_rfl) (by kernel_rfl) (by kernel_rfl) rfl (fun _ _ _ h => h) (by rfl) (by assumption) ?_ ?_
  rotate_left
  · (intro w hSw; (try dsimp only at hSw); go_simp <;> with_reducible rfl)
  simp only [Act.put, List.setIfInBounds_toArray, List.set_cons_zero, List.set_cons_succ]
  refine lateStep 6 (by kernel_rfl) rfl (by rfl) (fun K hK => ?_)
  go_simp
  refine (unhide QP w4.drew (unhide HS4).drew.cur).mono ?_
  rintro e w5 ⟨z, hz1, hz2, rfl, hc5, hg5⟩
  go_wp2_with fail
  refine hK.out _ _ (row_cell ((unhide HS4).drew.call hc5 hg5).box) (fun hHeld2 => ?_)
  clear hK K hHeld
  have hHeld := hHeld2; clear hHeld2
  try simp only [Act.put, List.setIfInBounds_toArray, List.set_cons_zero, List.set_cons_succ]
  have S5 := (unhide HS4).drew.call hc5 hg5
  have HU5 := hide (own_cur (w := w4.drew) (unhide HU) (unhide HS4).drew.cur (by decide) hg5)
  clear hc5 hg5
  refine lateStep 8 (by kernel_rfl) rfl (by rfl) (fun K hK => ?_)
  go_simp
  refine (l03Left_any B (w.heap.size + 1) w5 S5.cur).mono ?_
  rintro e w6 ⟨x, left, hleft, rfl, hx6, hc6, hg6⟩
  go_wp2_with fail
  refine hK.out _ _ (row_cell (S5.call hc6 hg6).box) (fun hHeld2 => ?_)
  clear hK K hHeld
  have hHeld := hHeld2; clear hHeld2
  try simp only [Act.put, List.setIfInBounds_toArray, List.set_cons_zero, List.set_cons_succ]
  have S6 := S5.call hc6 hg6
  have HU6 := hide (own_cur (unhide HU5) S5.cur (by decide) hg6)
  have HX6 := hide (own_based hx6 S5.below.size)
  have r6 := row_cell S6.res
  have z6 := row_frozen S6.res
  clear hc6 hg6 S5 hx6 HU5
  refine lateStep 9 (by kernel_rfl) rfl (by rfl) (fun K hK => ?_)
  go_simp
  refine hK.out _ _ ((World.cell?_setCell_other _ _ _ _ (by simp <;> omega)).trans hHeld) (fun hHeld2 => ?_)
  clear hK K hHeld
  have hHeld := hHeld2; clear hHeld2
  try simp only [Act.put, List.setIfInBounds_toArray, List.set_cons_zero, List.set_cons_succ]
  refine lateStep 10 (by kernel_rfl) rfl (by rfl) (fun K hK => ?_)
  go_simp
  refine hK.out _ _ (hHeld) (fun hHeld2 => ?_)
  clear hK K hHeld
  have hHeld := hHeld2; clear hHeld2
  try simp only [Act.put, List.setIfInBounds_toArray, List.set_cons_zero, List.set_cons_succ]
  refine lateStep 11 (by kernel_rfl) rfl (by rfl) (fun K hK => ?_)
  go_simp
  refine hK.out _ _ (hHeld) (fun hHeld2 => ?_)
  clear hK K hHeld
  have hHeld := hHeld2; clear hHeld2
  try simp only [Act.put, List.setIfInBounds_toArray, List.set_cons_zero, List.set_cons_succ]
  refine lateStep 12 (by kernel_rfl) rfl (by rfl) (fun K hK => ?_)
  go_simp
  refine hK.out _ _ (hHeld) (fun hHeld2 => ?_)
  clear hK K hHeld
  have hHeld := hHeld2; clear hHeld2
  try simp only [Act.put, List.setIfInBounds_toArray, List.set_cons_zero, List.set_cons_succ]
  refine lateDone (by kernel_rfl) ?_ _
  have hf1 := set1 (.slice va vn vc) S6.res
  have hf2 := own_set (u := .slice va vn vc) S6.own S6.res (by decide)
  have hf3 := own_set (u := .slice va vn vc) (unhide HU6) S6.res (by decide)
  have hf4 := own_set (u := .slice va vn vc) (unhide HX6) S6.res (by decide)
  have hf5 := S6.below.setCell (p := ⟨w.heap.size, 0, none⟩) (Nat.le_refl _) (.slice va vn vc)
  clear S6 r6 z6 HU6 HX6
  go_wp2
  have rr := row_cell hf1
  refine bodyPost_ret (by simp [results, Try.results5, go_sem, rr]; try rfl) rfl ?_
  exact ⟨_, _, _, l, la, z, left, unhide HSL, hla, unhide HALL, hz1, hz2, hleft, rfl, hf2, hf3, hf4, hf5⟩
end Go.Proofs.Ytnlcknklghalkaa
