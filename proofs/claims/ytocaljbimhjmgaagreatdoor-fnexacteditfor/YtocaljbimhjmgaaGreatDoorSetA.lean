/- Several texts in one: RangeS, SetS, SetBits, SetRuns, SetPut. Made by fuse_tl.py. -/
import Derived.Test.YtocaljbimhjmgaaGreatDoorProg
import Derived.Test.YtocaljbimhjmgaaGreatDoorRowsA
import Derived.Test.YtocaljbimhjmgaaGreatDoorPlainA
import Derived.Deep.Slices
import Derived.Deep.Strs
import Derived.ChangeArms
import Derived.OpenShut
import Derived.Deep.RegionHeld3
import Derived.Deep.QuietTactic
import Derived.BigQuiet
import Derived.WalkSmall
import Derived.Deep.AppendLies
import Derived.Deep.AppendSrc
/- Rows of ranges: what the laws' own helpers do to them; one that came in, opened. -/
namespace Go.Proofs.YtocaljbimhjmgaaGreatDoor
open Go.RowKit Go.ChangeShapes Go.WideShapes Go.ChangeAt Go.Deep
open Plain
set_option linter.unusedVariables false

theorem Tryz.infoRange : (Tryz.prog.info? 87).map (fun i => (i.zero, i.size, i.bytes)) = some (some (.agg #[.int .i64 0, .int .i64 0]), 2, 16) := by kernel_rfl
def OwnR (B : Nat) (w : World) (v : Value) (l : List Rg) : Prop := w.ownsRow B 87 2 v l.length (rgs l)
theorem OwnR.up {B : Nat} {w w' : World} {v : Value} {l : List Rg} (h : OwnR B w v l) (hb : Below w.heap.size w w') : OwnR B w' v l := g_stays h hb

theorem rg_cells {w : World} {B g n cap : Nat} {l : List Rg} (h : w.ownsRow B 87 2 (.slice (some ⟨g, 0, none⟩) n cap) n (rgs l)) {k : Nat} {f : Rg} (hx : l[k]? = some f) (hk : k < n) :
    w.cell? ⟨g, k * 2, none⟩ = some (.int .i64 f.lo) ∧ w.cell? ⟨g, k * 2 + 1, none⟩ = some (.int .i64 f.hi) := by
  refine ⟨?_, ?_⟩
  · rw [h.cellAt _ (by omega), rgs_0 hx]
  · rw [h.cellAt _ (by omega), rgs_1 hx]

/-- Ranges that can be read in a row. -/
def ReadR (w : World) (v : Value) (l : List Rg) : Prop := ∃ a c, v = .slice a l.length c ∧ ∀ (k : Nat) (x : Rg), l[k]? = some x →
  ∃ g, a = some ⟨g, 0, none⟩ ∧ g < w.heap.size ∧ w.cell? ⟨g, k * 2, none⟩ = some (.int .i64 x.lo) ∧ w.cell? ⟨g, k * 2 + 1, none⟩ = some (.int .i64 x.hi)
theorem OwnR.read {B : Nat} {w : World} {v : Value} {l : List Rg} (h : OwnR B w v l) : ReadR w v l := by
  unfold OwnR at h
  rcases h.2 with ⟨rfl, h0⟩ | ⟨g, c, cur, rfl, hb, hh, hlc, _⟩
  · refine ⟨none, 0, by rw [h0], fun k x hx => ?_⟩
    rw [List.eq_nil_of_length_eq_zero h0] at hx
    simp at hx
  · refine ⟨_, _, rfl, fun k x hx => ⟨g, rfl, (h.lt _ rfl).2, ?_⟩⟩
    exact rg_cells h hx (List.getElem?_eq_some_iff.1 hx).1
theorem ReadR.up {w w' : World} {v : Value} {l : List Rg} (h : ReadR w v l) (hb : Below w.heap.size w w') : ReadR w' v l := by
  obtain ⟨a, c, hv, hc⟩ := h
  refine ⟨a, c, hv, fun k x hx => ?_⟩
  obtain ⟨g, hg, hl, c0, c1⟩ := hc k x hx
  exact ⟨g, hg, Nat.lt_of_lt_of_le hl hb.size, g_cell hb c0, g_cell hb c1⟩

/-- Ranges that came in, below block B. -/
def ArgR (B : Nat) (w : World) (a : Option Addr) (l : List Rg) : Prop :=
  ∀ i f, l[i]? = some f → ∃ x, a = some x ∧ x.block < B ∧ w.cell? (x.add (i * 2)) = some (.int .i64 f.lo) ∧ w.cell? ⟨(x.add (i * 2)).block, (x.add (i * 2)).off + 1, none⟩ = some (.int .i64 f.hi)
theorem ArgR.below {B : Nat} {w w' : World} {a : Option Addr} {l : List Rg} (h : ArgR B w a l) (hb : Below B w w') : ArgR B w' a l := by
  intro i f hf
  obtain ⟨x, h1, h2, c0, c1⟩ := h i f hf
  have hb' : (x.add (i * 2)).block < B := by rw [g_add]; exact h2
  exact ⟨x, h1, h2, (hb.cell hb').trans c0, (hb.cell (p := ⟨(x.add (i * 2)).block, _, none⟩) hb').trans c1⟩
theorem ArgR.up {w w' : World} {a : Option Addr} {l : List Rg} (h : ArgR w.heap.size w a l) (hb : Below w.heap.size w w') : ArgR w'.heap.size w' a l := by
  intro i f hf
  obtain ⟨x, h1, h2, h3⟩ := h.below hb i f hf
  exact ⟨x, h1, Nat.lt_of_lt_of_le h2 hb.size, h3⟩

theorem eqRange_same (x : Rg) (w : World) :
    Calls Tryz.prog 59 #[.agg #[.int .i64 x.lo, .int .i64 x.hi], .agg #[.int .i64 x.lo, .int .i64 x.hi]] w fun e w' => e = .returned (.bool true) ∧ Below w.heap.size w w' := by
  obtain ⟨p, q⟩ := x
  go_enter Tryz.func59, Tryz.ntmps59
  go_wp2
  go_ret
  refine ⟨rfl, ?_⟩
  go_grown

end Go.Proofs.YtocaljbimhjmgaaGreatDoor

/- Sets of numbers, as the specification tells them: SetOk, SetHas, SetSize. -/
namespace Go.Proofs.YtocaljbimhjmgaaGreatDoor
open Go.RowKit
open Plain
set_option linter.unusedVariables false

namespace Plain
theorem okFrom_take {p : Int} {s : List Rg} (k : Nat) (h : okFrom p s = true) : okFrom p (s.take k) = true := by
  induction s generalizing p k with
  | nil => simp [okFrom]
  | cons r t ih =>
    cases k with
    | zero => rfl
    | succ k =>
      rw [List.take_succ_cons, okFrom_cons]
      rw [okFrom_cons] at h
      exact ⟨h.1, h.2.1, h.2.2.1, h.2.2.2.1, ih k h.2.2.2.2⟩
theorem okS_no {s : List Rg} (k : Nat) (h : okFrom (-1) (s.take k) = false) : okS s = false := by
  cases hx : okFrom (-1) s with
  | false => simp [okS, hx]
  | true => rw [okFrom_take k hx] at h; cases h
theorem ok_snoc {s : List Rg} {k : Nat} {r : Rg} (hr : s[k]? = some r) : s.take (k + 1) = s.take k ++ [r] := by rw [List.take_add_one, hr]; rfl
theorem ok_next {s : List Rg} {k : Nat} {r : Rg} (hr : s[k]? = some r) (h : okFrom (-1) (s.take k) = true) (h1 : 1 ≤ r.lo) (h2 : r.lo ≤ r.hi) (h3 : r.hi ≤ 9999) (h4 : lastHi (-1) (s.take k) + 1 < r.lo) : okFrom (-1) (s.take (k + 1)) = true := by
  rw [ok_snoc hr]; exact okFrom_snoc.2 ⟨h, h1, h2, h3, h4⟩
theorem ok_fail {s : List Rg} {k : Nat} {r : Rg} (hr : s[k]? = some r) (h : ¬ (1 ≤ r.lo ∧ r.lo ≤ r.hi ∧ r.hi ≤ 9999 ∧ lastHi (-1) (s.take k) + 1 < r.lo)) : okS s = false := by
  refine okS_no (k + 1) ?_
  cases hx : okFrom (-1) (s.take (k + 1)) with
  | false => rfl
  | true =>
    rw [ok_snoc hr] at hx
    exact absurd (okFrom_snoc.1 hx).2 h
theorem last_take {s : List Rg} {k : Nat} {p : Rg} (hp : s[k]? = some p) : lastHi (-1) (s.take (k + 1)) = p.hi := by rw [ok_snoc hp, lastHi_snoc]
end Plain

theorem drewN2 (w : World) (a b : Nat) : (w.drewN a).drewN b = w.drewN (a + b) := by unfold World.drewN; simp [Nat.add_assoc]

theorem l01In_is (x l m : Int) (w : World) : Calls Tryz.prog 40 #[.int .i64 x, .int .i64 l, .int .i64 m] w fun e w' => e = .returned (.bool (decide (l ≤ x) && decide (x ≤ m))) ∧ w' = w := by
  by_cases h : l ≤ x
  · have hd : decide (l ≤ x) = true := by simpa using h
    by_cases h2 : x ≤ m
    · have hd2 : decide (x ≤ m) = true := by simpa using h2
      rw [hd, hd2]
      go_enter Tryz.func40, Tryz.ntmps40
      go_wp2
      go_ret
      exact ⟨rfl, rfl⟩
    · have hd2 : decide (x ≤ m) = false := by simpa using h2
      rw [hd, hd2]
      go_enter Tryz.func40, Tryz.ntmps40
      go_wp2
      go_ret
      exact ⟨rfl, rfl⟩
  · have hd : decide (l ≤ x) = false := by simpa using h
    rw [hd]
    go_enter Tryz.func40, Tryz.ntmps40
    go_wp2
    go_ret
    exact ⟨rfl, rfl⟩

set_option maxHeartbeats 4000000 in
set_option maxRecDepth 100000 in
theorem spec_SetOk_any (s : List Rg) (v : Value) (w : World) (hs : s.length ≤ 1048576) (h : ReadR w v s) :
    Calls Tryz.prog 43 #[v] w fun e w' => e = .returned (.bool (okS s)) ∧ ∃ q, w' = w.drewN q := by
  obtain ⟨a, c, rfl, hc⟩ := h
  have C := hide hc
  clear hc
  go_enter Tryz.func43, Tryz.ntmps43
  go_wp2
  go_loopw [3] (fun i wr => ∃ k q : Nat, k ≤ s.length ∧ i = .int .i64 k ∧ okFrom (-1) (s.take k) = true ∧ wr = w.drewN q) (fun i _ => s.length - (intOf i).toNat)
  case atStart => exact ⟨0, 0, Nat.zero_le _, rfl, rfl, rfl⟩
  case round =>
    obtain ⟨k, q, hk, rfl, hok, rfl⟩ := hrel
    by_cases hlt : k < s.length
    · have hgk : s[k]? = some s[k] := List.getElem?_eq_getElem hlt
      obtain ⟨g, hga, hgl, c0, c1⟩ := unhide C k s[k] hgk
      subst hga
      have FAIL := hide (fun h => ok_fail hgk h)
      have NEXT := hide (fun h1 h2 h3 h4 => ok_next hgk hok h1 h2 h3 h4)
      have PREV : ∀ j, k = j + 1 → ∃ p : Rg, s[j]? = some p ∧ 1 ≤ p.hi ∧ p.hi ≤ 9999 ∧ lastHi (-1) (s.take k) = p.hi ∧ w.cell? ⟨g, j * 2 + 1, none⟩ = some (.int .i64 p.hi) := by
        intro j hj
        subst hj
        have hp : s[j]? = some s[j] := List.getElem?_eq_getElem (by omega)
        obtain ⟨g', hg', _, _, d1⟩ := unhide C j s[j] hp
        have e : g' = g := by cases hg'; rfl
        subst e
        have ho := okFrom_snoc.1 (by rw [← ok_snoc hp]; exact hok)
        exact ⟨s[j], hp, by have h1 := ho.2.1; have h2 := ho.2.2.1; omega, ho.2.2.2.1, last_take hp, d1⟩
      have P := hide PREV
      have HK0 : Hid (k = 0 → lastHi (-1) (s.take k) = -1) := fun h => by rw [h]; rfl
      generalize s[k] = r at *
      obtain ⟨rl, rh⟩ := r
      simp only at c0 c1 FAIL NEXT
      have hik : (0 : Int) ≤ (k : Int) := by omega
      have hil : (k : Int) < (s.length : Int) := by omega
      clear hok hgk PREV
      by_cases hA : 1 ≤ rl ∧ rl ≤ rh
      · obtain ⟨hA1, hA2⟩ := hA
        have L : Hid (∀ W, Calls Tryz.prog 40 #[.int .i64 rl, .int .i64 1, .int .i64 rh] W fun e w' => e = .returned (.bool true) ∧ w' = W) := fun W => by
          have := l01In_is rl 1 rh W
          rw [decide_eq_true hA1, decide_eq_true hA2] at this
          exact this
        by_cases hB : 9999 < rh
        · have dB : decide ((9999 : Int) < rh) = true := by simpa using hB
          have F := hide (unhide FAIL (fun h => absurd h.2.2.1 (by omega)))
          go_wp2
          go_quiet ((go_at_call 40; exact (unhide L _).mono fun _ _ h => ⟨h.1, _, h.2⟩))
          go_wp2
          go_ret
          exact ⟨by rw [unhide F]; rfl, _, drewN2 _ _ _⟩
        · have dB : decide ((9999 : Int) < rh) = false := by simpa using hB
          cases hk0 : k with
          | zero =>
            subst hk0
            have N := hide (unhide NEXT hA1 hA2 (by omega) (by rw [unhide HK0 rfl]; omega))
            go_wp2
            go_quiet ((go_at_call 40; exact (unhide L _).mono fun _ _ h => ⟨h.1, _, h.2⟩))
            go_wp2
            go_roundw
            case rel => exact ⟨1, _, by omega, by go_num, unhide N, rfl⟩
            case measure => simp [intOf]; omega
          | succ j =>
            subst hk0
            obtain ⟨p, hp, hp1, hp9, hlast, d1⟩ := unhide P j rfl
            obtain ⟨pl, ph⟩ := p
            simp only at hp1 hp9 hlast d1
            have dj : decide ((0 : Int) < (j : Int) + 1) = true := by rw [decide_eq_true_eq]; omega
            have hij : (0 : Int) ≤ (j : Int) + 1 - 1 := by omega
            have hij2 : (j : Int) < (s.length : Int) := by omega
            by_cases hD : rl ≤ ph + 1
            · have dD : decide (rl ≤ ph + 1) = true := by simpa using hD
              have F := hide (unhide FAIL (fun h => by have := h.2.2.2; rw [hlast] at this; omega))
              go_wp2
              go_quiet ((go_at_call 40; exact (unhide L _).mono fun _ _ h => ⟨h.1, _, h.2⟩))
              go_wp2
              go_ret
              exact ⟨by rw [unhide F]; rfl, _, drewN2 _ _ _⟩
            · have dD : decide (rl ≤ ph + 1) = false := by simpa using hD
              have N := hide (unhide NEXT hA1 hA2 (by omega) (by rw [hlast]; omega))
              go_wp2
              go_quiet ((go_at_call 40; exact (unhide L _).mono fun _ _ h => ⟨h.1, _, h.2⟩))
              go_wp2
              go_roundw
              case rel => exact ⟨j + 1 + 1, _, by omega, by go_num, unhide N, rfl⟩
              case measure => simp [intOf]; omega
      · have L : Hid (∀ W, Calls Tryz.prog 40 #[.int .i64 rl, .int .i64 1, .int .i64 rh] W fun e w' => e = .returned (.bool false) ∧ w' = W) := fun W => by
          have := l01In_is rl 1 rh W
          have e : (decide ((1 : Int) ≤ rl) && decide (rl ≤ rh)) = false := by
            rw [Bool.and_eq_false_iff]
            by_cases h : 1 ≤ rl
            · right; simp; omega
            · left; simp; omega
          rw [e] at this
          exact this
        have F := hide (unhide FAIL (fun h => hA ⟨h.1, h.2.1⟩))
        go_wp2
        go_quiet ((go_at_call 40; exact (unhide L _).mono fun _ _ h => ⟨h.1, _, h.2⟩))
        go_wp2
        go_ret
        exact ⟨by rw [unhide F]; rfl, _, drewN2 _ _ _⟩
    · have e : k = s.length := by omega
      have hall : okFrom (-1) s = true := by rw [e, List.take_length] at hok; exact hok
      have O := hide hall
      clear hok hall
      go_wp2
      go_ret
      refine ⟨?_, q, rfl⟩
      rw [okS, unhide O, Bool.true_and]
      by_cases h40 : s.length ≤ 40
      · rw [decide_eq_true h40]; simp; omega
      · rw [decide_eq_false h40]; simp; omega

end Go.Proofs.YtocaljbimhjmgaaGreatDoor

/- Sets of numbers as marks: the specification's l05Bits and l05Set. -/
namespace Go.Proofs.YtocaljbimhjmgaaGreatDoor
open Go.RowKit
open Plain
set_option linter.unusedVariables false

namespace Plain
/-- Marks in a row. -/
def bitsRow (f : Nat → Bool) : List Value := (List.range 10001).map fun i => .bool (f i)
theorem bitsRow_length (f : Nat → Bool) : (bitsRow f).length = 10001 := by simp [bitsRow]
theorem bitsRow_get (f : Nat → Bool) {i : Nat} (h : i < 10001) : (bitsRow f)[i]? = some (.bool (f i)) := by simp [bitsRow, h]
def setBit (f : Nat → Bool) (n : Nat) (c : Bool) (i : Nat) : Bool := if i = n then c else f i
theorem bitsRow_set (f : Nat → Bool) (n : Nat) (c : Bool) : (bitsRow f).set n (.bool c) = bitsRow (setBit f n c) := by
  apply List.ext_getElem?
  intro i
  by_cases hi : i < 10001
  · rw [bitsRow_get _ hi, List.getElem?_set]
    unfold setBit
    by_cases e : n = i
    · subst e
      rw [if_pos rfl, if_pos rfl, bitsRow_length, if_pos hi]
    · rw [if_neg e, bitsRow_get _ hi, if_neg (fun h => e h.symm)]
  · rw [List.getElem?_eq_none (by rw [List.length_set, bitsRow_length]; omega), List.getElem?_eq_none (by rw [bitsRow_length]; omega)]
end Plain

theorem Tryz.infoBool : (Tryz.prog.info? 4).map (fun i => (i.zero, i.size, i.bytes)) = some (some (.bool false), 1, 1) := by kernel_rfl
theorem made_bits : (madeCells (Value.bool false).cells (10001 * 1)).toList = bitsRow (fun _ => false) := by
  apply List.ext_getElem?
  intro i
  by_cases hi : i < 10001
  · rw [bitsRow_get _ hi, Array.getElem?_toList, madeCells, Array.getElem?_map, Array.getElem?_eq_getElem (by simp; omega), Array.getElem_range, Option.map_some]
    show some (#[Value.bool false][i % 1]!) = _
    rw [Nat.mod_one]
    rfl
  · rw [List.getElem?_eq_none (by simp [madeCells]; omega), List.getElem?_eq_none (by rw [bitsRow_length]; omega)]

end Go.Proofs.YtocaljbimhjmgaaGreatDoor

/- The set of what is marked: the specification's l05Set. -/
namespace Go.Proofs.YtocaljbimhjmgaaGreatDoor
open Go.RowKit
open Plain
set_option linter.unusedVariables false

theorem news_two {W : World} (x y : Value) : ∀ j u, ([x, y] : List Value)[j]? = some u → (W.alloc (.cells #[x, y] 87)).cell? ((⟨W.heap.size, 0, none⟩ : Addr).add j) = some u := fun j u hj =>
  World.news_of_block (cs := #[x, y]) (t := 87) (fr := (0, 0)) (heap_alloc_new W _) j u (by simpa using hj)
namespace Plain
theorem set_last (a : List Rg) (r : Rg) (x : Int) : (rgs (a ++ [r])).set (a.length * 2 + 1) (.int .i64 x) = rgs (a ++ [⟨r.lo, x⟩]) := by
  rw [rgs_setHi (a ++ [r]) a.length r x (by simp)]
  congr 1
  rw [List.set_append_right _ _ (Nat.le_refl _), Nat.sub_self]
  rfl
theorem setV_1 {f : Nat → Bool} (h : (setOf f).length ≤ 40) : setV f = (setOf f, true) := if_pos h
theorem setV_0 {f : Nat → Bool} (h : ¬ (setOf f).length ≤ 40) : setV f = ([], false) := if_neg h
theorem okS_setOf {f : Nat → Bool} (h0 : f 0 = false) : okS (setOf f) = decide ((setOf f).length ≤ 40) := by rw [okS, setOf_ok f h0, Bool.true_and]
end Plain

set_option maxHeartbeats 4000000 in
set_option maxRecDepth 100000 in
theorem l05Set_any (f : Nat → Bool) (h0 : f 0 = false) (gB B : Nat) (w : World) (h : w.ownsRow B 4 1 (.slice (some ⟨gB, 0, none⟩) 10001 10001) 10001 (bitsRow f)) :
    Calls Tryz.prog 64 #[.slice (some ⟨gB, 0, none⟩) 10001 10001] w fun e w' => ∃ v', e = .returned (.tuple #[v', .bool (setV f).2]) ∧ OwnR w.heap.size w' v' (setV f).1 ∧ Below w.heap.size w w' := by
  obtain ⟨i0, hi, hz0, hz1, hz2⟩ := info_parts Tryz.infoRange
  have hgB : gB < w.heap.size := (h.lt _ rfl).2
  have C := hide (fun (W : World) (hb : Below w.heap.size w W) (i : Nat) (hi : i < 10001) => show W.cell? ⟨gB, i, none⟩ = some (.bool (f i)) by rw [hb.cell (p := ⟨gB, i, none⟩) hgB, h.cellAt i (by omega), bitsRow_get f hi])
  clear h
  have RL := hide (fun j => runs_len f j)
  have INV := hide (fun j hj => runs_inv f h0 j hj)
  have H0 := hide h0
  clear h0
  go_enter Tryz.func64, Tryz.ntmps64
  go_wp2
  go_loopw [4, 5] (fun v n wr => ∃ j : Nat, j ≤ 9999 ∧ n = .int .i64 ((j : Int) + 1) ∧ wr.ownsRow w.heap.size 87 2 v (runsTo f j).length (rgs (runsTo f j)) ∧ w.heap.size ≤ wr.heap.size ∧ Below w.heap.size w wr) (fun _ n _ => 10000 - (intOf n).toNat)
  case atStart => exact ⟨0, Nat.zero_le _, rfl, World.ownsRow_lit w #[] 0 (Nat.le_refl _) (Nat.zero_le _) rfl, by simp, (Below.refl _ _).alloc (Nat.le_refl _) _⟩
  case round =>
    obtain ⟨j, hj, rfl, hown, hsz, hbel⟩ := hrel
    have hlen := unhide RL j
    by_cases hlt : j < 9999
    · have d9 : decide ((j : Int) + 1 ≤ 9999) = true := by rw [decide_eq_true_eq]; omega
      have cb : wr.cell? ⟨gB, j + 1, none⟩ = some (.bool (f (j + 1))) := unhide C wr hbel (j + 1) (by omega)
      have ca : wr.cell? ⟨gB, j, none⟩ = some (.bool (f j)) := unhide C wr hbel j (by omega)
      have hij : (0 : Int) ≤ (j : Int) + 1 := by omega
      have hij2 : (j : Int) + 1 < 10001 := by omega
      have hij3 : (j : Int) < 10001 := by omega
      cases hb : f (j + 1) with
      | false =>
        rw [hb] at cb
        have R := hide (runsTo_off hb)
        have OW := hide hown
        have BW := hide hbel
        clear hown hbel
        go_wp2
        go_roundw
        case rel => exact ⟨j + 1, by omega, by go_num, by rw [unhide R]; exact unhide OW, hsz, unhide BW⟩
        case measure => simp [intOf]; omega
      | true =>
        rw [hb] at cb
        cases hc : f j with
        | false =>
          rw [hc] at ca
          have R := hide (runsTo_new hb hc)
          obtain ⟨va, vc, rfl⟩ := g_shape hown
          generalize runsTo f j = l at *
          have OW := hide hown
          clear hown
          go_wp2_with (at_builtin; refine wpList_append_own _ rfl _ _ 30 rfl w.heap.size 87 i0 _ 2 16 Tryz.underlying30 hi hz0 hz1 hz2 rfl (by decide) _ _ _ rfl ((unhide OW).alloc _) ⟨wr.heap.size, 0, none⟩ 1 1 [.int .i64 ((j : Int) + 1), .int .i64 0] rfl rfl (news_two _ _) ?c2 ?c3 ?c4 ?c5 ?_)
          case c2 => intro u hu; simp at hu; rcases hu with rfl | rfl <;> rfl
          case c3 => unfold maxLen; omega
          case c4 => omega
          case c5 => simp; omega
          intro v' w1 hown' hgrow _
          obtain ⟨g', cap', rfl⟩ := ownsRow_succ hown'
          have own1 : w1.ownsRow w.heap.size 87 2 (.slice (some ⟨g', 0, none⟩) (l.length + 1) cap') (l.length + 1) (rgs (l ++ [⟨(j : Int) + 1, 0⟩])) := by
            rw [rgs_append]; exact hown'
          obtain ⟨y, hy⟩ := g_some own1 (j := l.length * 2 + 1) (by omega)
          have fz := own1.frozenAt (l.length * 2 + 1)
          have st := (own1.stored (l.length * 2 + 1) (.int .i64 ((j : Int) + 1))).1
          rw [set_last] at st
          have ST := hide st
          have hb1 : Below w.heap.size w w1 := (hbel.alloc hsz _).grown hgrow (by simp; omega) (fun k hk => ((unhide OW).lt k hk).1)
          have B1 := hide (hb1.setCell (p := ⟨g', l.length * 2 + 1, none⟩) (own1.lt g' rfl).1 (.int .i64 ((j : Int) + 1)))
          have hs1 : w.heap.size ≤ w1.heap.size := hb1.size
          have hli : (0 : Int) ≤ (l.length : Int) := by omega
          clear hown' hgrow own1 st hb1 hbel OW
          go_wp2
          go_roundw
          case rel => exact ⟨j + 1, by omega, by go_num, by rw [unhide R, List.length_append]; exact unhide ST, by simpa using hs1, unhide B1⟩
          case measure => simp [intOf]; omega
        | true =>
          rw [hc] at ca
          obtain ⟨a, r, hrs, hr⟩ := (unhide INV j (by omega)).2.2.1 hc
          have R := hide (runsTo_on hb hc hrs)
          rw [hrs] at hown hlen
          rw [List.length_append] at hown hlen
          have own2 : wr.ownsRow w.heap.size 87 2 u4 (a.length + 1) (rgs (a ++ [r])) := hown
          obtain ⟨g', cap', rfl⟩ := ownsRow_succ own2
          obtain ⟨y, hy⟩ := g_some own2 (j := a.length * 2 + 1) (by omega)
          have fz := own2.frozenAt (a.length * 2 + 1)
          have st := (own2.stored (a.length * 2 + 1) (.int .i64 ((j : Int) + 1))).1
          rw [set_last] at st
          have ST := hide st
          have B1 := hide (hbel.setCell (p := ⟨g', a.length * 2 + 1, none⟩) (own2.lt g' rfl).1 (.int .i64 ((j : Int) + 1)))
          have hli : (0 : Int) ≤ (a.length : Int) := by omega
          clear hown own2 st hbel hrs
          go_wp2
          go_roundw
          case rel => exact ⟨j + 1, by omega, by go_num, by rw [unhide R, List.length_append]; exact unhide ST, by simpa using hsz, unhide B1⟩
          case measure => simp [intOf]; omega
    · have hj9 : j = 9999 := by omega
      subst hj9
      have OWN : OwnR w.heap.size wr u4 (setOf f) := hown
      have q0 := spec_SetOk_any (setOf f) u4 wr (by show (runsTo f 9999).length ≤ 1048576; omega) OWN.read
      rw [okS_setOf (unhide H0)] at q0
      have Q0 := hide q0
      have OW := hide OWN
      have BW := hide hbel
      clear q0 OWN hown hbel C INV RL
      by_cases h40 : (setOf f).length ≤ 40
      · rw [decide_eq_true h40] at Q0
        have V := hide (setV_1 h40)
        go_wp2_with (go_at_call 43; refine (unhide Q0).mono ?_; rintro e w1 ⟨rfl, q1, rfl⟩)
        go_ret2
        refine ⟨_, by rw [unhide V]; rfl, ?_, below_drewN (unhide BW) q1⟩
        rw [unhide V]
        exact unhide OW
      · rw [decide_eq_false h40] at Q0
        have V := hide (setV_0 h40)
        go_wp2_with (go_at_call 43; refine (unhide Q0).mono ?_; rintro e w1 ⟨rfl, q1, rfl⟩)
        go_ret2
        refine ⟨_, by rw [unhide V]; rfl, ?_, (below_drewN (unhide BW) q1).alloc (by exact hsz) _⟩
        rw [unhide V]
        exact World.ownsRow_lit _ #[] 0 hsz (Nat.zero_le _) rfl
end Go.Proofs.YtocaljbimhjmgaaGreatDoor

/- Numbers put into a set, or taken out of it: the specification's l05Put, SetAdd, SetDrop. -/
namespace Go.Proofs.YtocaljbimhjmgaaGreatDoor
open Go.RowKit
open Plain
set_option linter.unusedVariables false

namespace Plain
end Plain

end Go.Proofs.YtocaljbimhjmgaaGreatDoor
