/- Sets of numbers as marks: the specification's l05Bits and l05Set. -/
import Derived.Test.YtkjlponggednoacSetS
import Derived.Deep.AppendLies
namespace Go.Proofs.Ytkjlponggednoac
open Go.RowKit
open Plain
set_option linter.unusedVariables false

namespace Plain
/-- Marks in a row. -/
def bitsRow (f : Nat → Bool) : List Value := (List.range 10001).map fun i => .bool (f i)
theorem bitsRow_length (f : Nat → Bool) : (bitsRow f).length = 10001 := by simp [bitsRow]
theorem bitsRow_get (f : Nat → Bool) {i : Nat} (h : i < 10001) : (bitsRow f)[i]? = some (.bool (f i)) := by simp [bitsRow, h]
theorem bitsRow_congr {f g : Nat → Bool} (h : ∀ i, i < 10001 → f i = g i) : bitsRow f = bitsRow g := by
  unfold bitsRow
  apply List.map_congr_left
  intro i hi
  rw [h i (List.mem_range.1 hi)]
def setBit (f : Nat → Bool) (n : Nat) (c : Bool) (i : Nat) : Bool := if i = n then c else f i
theorem bitsRow_set (f : Nat → Bool) (n : Nat) (c : Bool) : (bitsRow f).set n (.bool c) = bitsRow (setBit f n c) := by
  apply List.ext_getElem?
  intro i
  by_cases hi : i < 10001
  · rw [bitsRow_get _ hi, List.getElem?_set]
    unfold setBit
    by_cases e : n = i
    · subst e
      rw [if_pos rfl, if_pos rfl, bitsRow_length, if_pos hi]
    · rw [if_neg e, bitsRow_get _ hi, if_neg (fun h => e h.symm)]
  · rw [List.getElem?_eq_none (by rw [List.length_set, bitsRow_length]; omega), List.getElem?_eq_none (by rw [bitsRow_length]; omega)]
/-- The first k ranges, and of the next one what is below n. -/
def partB (s : List Rg) (k : Nat) (lo n : Int) (i : Nat) : Bool := bitsOf (s.take k) i || (decide (lo ≤ (i : Int)) && decide ((i : Int) < n))
theorem partB_start (s : List Rg) (k : Nat) (lo : Int) : partB s k lo lo = bitsOf (s.take k) := by
  funext i
  unfold partB
  by_cases h : lo ≤ (i : Int)
  · rw [decide_eq_false (show ¬ (i : Int) < lo by omega), Bool.and_false, Bool.or_false]
  · rw [decide_eq_false h, Bool.false_and, Bool.or_false]
theorem partB_step (s : List Rg) (k : Nat) (lo : Int) (n : Nat) (h : lo ≤ (n : Int)) : setBit (partB s k lo n) n true = partB s k lo ((n : Int) + 1) := by
  funext i
  unfold setBit partB
  by_cases e : i = n
  · subst e
    rw [if_pos rfl, decide_eq_true h, decide_eq_true (show (i : Int) < (i : Int) + 1 by omega)]; simp
  · rw [if_neg e]
    by_cases h2 : (i : Int) < n
    · rw [decide_eq_true h2, decide_eq_true (show (i : Int) < (n : Int) + 1 by omega)]
    · rw [decide_eq_false h2, decide_eq_false (show ¬ (i : Int) < (n : Int) + 1 by omega)]
theorem partB_end {s : List Rg} {k : Nat} {r : Rg} (hr : s[k]? = some r) : partB s k r.lo (r.hi + 1) = bitsOf (s.take (k + 1)) := by
  funext i
  unfold partB bitsOf
  rw [hasB_take hr]
  by_cases h : (i : Int) ≤ r.hi
  · rw [decide_eq_true h, decide_eq_true (show (i : Int) < r.hi + 1 by omega)]
  · rw [decide_eq_false h, decide_eq_false (show ¬ (i : Int) < r.hi + 1 by omega)]
theorem bitsOf_nil : bitsOf [] = fun _ => false := rfl
end Plain

theorem Try.infoBool : (Try.prog.info? 4).map (fun i => (i.zero, i.size, i.bytes)) = some (some (.bool false), 1, 1) := by kernel_rfl
def OwnBits (B : Nat) (w : World) (v : Value) (f : Nat → Bool) : Prop := w.ownsRow B 4 1 v 10001 (bitsRow f)
theorem made_bits : (madeCells (Value.bool false).cells (10001 * 1)).toList = bitsRow (fun _ => false) := by
  apply List.ext_getElem?
  intro i
  by_cases hi : i < 10001
  · rw [bitsRow_get _ hi, Array.getElem?_toList, madeCells, Array.getElem?_map, Array.getElem?_eq_getElem (by simp; omega), Array.getElem_range, Option.map_some]
    show some (#[Value.bool false][i % 1]!) = _
    rw [Nat.mod_one]
    rfl
  · rw [List.getElem?_eq_none (by simp [madeCells]; omega), List.getElem?_eq_none (by rw [bitsRow_length]; omega)]

set_option maxHeartbeats 2000000 in
set_option maxRecDepth 100000 in
theorem l05Bits_any (s : List Rg) (v : Value) (w : World) (hs : okS s = true) (h : ReadR w v s) :
    Calls Try.prog 64 #[v] w fun e w' => ∃ g, e = .returned (.slice (some ⟨g, 0, none⟩) 10001 10001) ∧ OwnBits w.heap.size w' (.slice (some ⟨g, 0, none⟩) 10001 10001) (bitsOf s) ∧ Below w.heap.size w w' := by
  obtain ⟨i0, hi, hz0, hz1, hz2⟩ := info_parts Try.infoBool
  obtain ⟨hok, h40⟩ := okS_parts hs
  obtain ⟨a, c, rfl, hc⟩ := h
  have C := hide hc
  have AT := hide (fun (k : Nat) (r : Rg) hr => ok_at (k := k) (r := r) hok hr)
  clear hc hok hs
  unfold OwnBits
  go_enter Try.func64, Try.ntmps64
  go_wp2_with (refine wpList_make_full _ rfl _ _ 90 rfl w.heap.size 4 i0 _ 1 Try.underlying90 hi hz0 hz1 .i64 .i64 _ _ 10001 rfl rfl rfl rfl (by rw [hz2]; omega) (by unfold maxLen; omega) (Nat.le_refl _) ?_; intro wm hown hgm)
  rw [made_bits] at hown
  have hgl : w.heap.size < wm.heap.size := (hown.lt _ rfl).2
  have OM := hide hown
  have GM := hide (g_below hgm)
  clear hown hgm
  go_loopw [4] (fun i wr => ∃ k : Nat, k ≤ s.length ∧ i = .int .i64 k ∧ wr.ownsRow w.heap.size 4 1 (.slice (some ⟨w.heap.size, 0, none⟩) 10001 10001) 10001 (bitsRow (bitsOf (s.take k))) ∧ Below w.heap.size w wr) (fun i _ => s.length - (intOf i).toNat)
  case atStart => exact ⟨0, Nat.zero_le _, rfl, unhide OM, unhide GM⟩
  case round =>
    obtain ⟨k, hk, rfl, hown, hbel⟩ := hrel
    by_cases hlt : k < s.length
    · have hgk : s[k]? = some s[k] := List.getElem?_eq_getElem hlt
      obtain ⟨g, hga, hgl2, c0, c1⟩ := unhide C k s[k] hgk
      subst hga
      obtain ⟨o1, o2, o3⟩ := unhide AT k s[k] hgk
      have PE := hide (partB_end hgk)
      generalize s[k] = r at *
      obtain ⟨rl, rh⟩ := r
      simp only at c0 c1 PE o1 o2 o3
      obtain ⟨rn, rfl⟩ : ∃ rn : Nat, rl = (rn : Int) := ⟨rl.toNat, by omega⟩
      have D0 := hide ((hbel.cell (p := ⟨g, _, none⟩) hgl2).trans c0)
      have D1 := hide (fun W (hb : Below w.heap.size w W) => (hb.cell (p := ⟨g, _, none⟩) hgl2).trans c1)
      have d0 := unhide D0
      have OW := hide hown
      have BW := hide hbel
      clear c0 c1 hgk hown hbel
      go_wp2
      clear d0
      go_loopw [5] (fun n wq => ∃ m : Nat, (rn : Int) ≤ m ∧ (m : Int) ≤ rh + 1 ∧ n = .int .i64 m ∧ wq.ownsRow w.heap.size 4 1 (.slice (some ⟨w.heap.size, 0, none⟩) 10001 10001) 10001 (bitsRow (partB s k rn m)) ∧ Below w.heap.size w wq) (fun n _ => (rh + 1).toNat - (intOf n).toNat)
      case atStart => exact ⟨rn, Int.le_refl _, by omega, rfl, by rw [partB_start]; exact unhide OW, unhide BW⟩
      case round =>
        obtain ⟨m, hm1, hm2, rfl, hownq, hbq⟩ := hrel
        have d1 := unhide D1 _ hbq
        by_cases hlm : (m : Int) ≤ rh
        · have dm : decide ((m : Int) ≤ rh) = true := by simpa using hlm
          obtain ⟨y, hy⟩ := g_some hownq (j := m) (by omega)
          have fz := hownq.frozenAt m
          have st := (hownq.stored m (.bool true)).1
          rw [bitsRow_set, partB_step s k rn m hm1] at st
          have ST := hide st
          have BQ := hide (hbq.setCell (p := ⟨w.heap.size, m, none⟩) (Nat.le_refl _) (.bool true))
          clear hownq hbq st
          go_wp2
          go_roundw
          case rel => exact ⟨m + 1, by omega, by omega, by go_num, unhide ST, unhide BQ⟩
          case measure => simp [intOf]; omega
        · have dm : decide ((m : Int) ≤ rh) = false := by simpa using hlm
          have e : (m : Int) = rh + 1 := by omega
          rw [e, unhide PE] at hownq
          have OQ := hide hownq
          have BQ := hide hbq
          clear hownq hbq e
          go_wp2
          go_roundw
          case rel => exact ⟨k + 1, by omega, by go_num, unhide OQ, unhide BQ⟩
          case measure => simp [intOf]; omega
    · have e : k = s.length := by omega
      rw [e, List.take_length] at hown
      go_wp2
      go_ret
      exact ⟨_, rfl, hown, hbel⟩
end Go.Proofs.Ytkjlponggednoac
