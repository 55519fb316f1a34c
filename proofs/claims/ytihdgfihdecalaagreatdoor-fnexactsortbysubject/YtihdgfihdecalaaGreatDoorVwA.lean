/- Several texts in one. -/
import Derived.Below
import Derived.Test.YtihdgfihdecalaaGreatDoorPlainA
import Derived.Test.YtihdgfihdecalaaGreatDoorProg
import Derived.WalkKit
import Derived.WalkSpells
import Derived.ProofKit
import Derived.Handy
import Derived.WalkSmall
import Derived.Laws.AppendOwn
import Derived.Deep.RegionHeld3
import Derived.Deep.QuietTactic
import Derived.BigQuiet
import Derived.Test.YtihdgfihdecalaaGreatDoorIntRow
import Derived.Deep.Strs
import Derived.Deep.Slices
import Derived.ChangeArms
import Derived.OpenShut
namespace Go.Proofs.YtihdgfihdecalaaGreatDoor.Plain

structure Fl where
  name : ByteArray
  text : ByteArray
  kept : Int

end Go.Proofs.YtihdgfihdecalaaGreatDoor.Plain

namespace Go.Proofs.YtihdgfihdecalaaGreatDoor
open Go.RowKit
open Plain
set_option linter.unusedVariables false

theorem add_blk (x : Addr) (j : Nat) : (x.add j).block = x.block := by
  unfold Addr.add; split <;> rfl
theorem below_draws {B : Nat} {w w1 : World} (h : Below B w w1) (z : Nat) : Below B w (w1.drewN z) := ⟨h.os, h.tape, h.output, h.size, h.block⟩

/-- Files that came in, below block B. -/
def ArgF (B : Nat) (w : World) (a : Option Addr) (l : List Fl) : Prop :=
  ∀ i f, l[i]? = some f → ∃ x, a = some x ∧ x.block < B ∧ f.name.size ≤ maxLen ∧ f.text.size ≤ maxLen ∧ w.cell? (x.add (i * 3)) = some (.string f.name) ∧
    w.cell? ⟨(x.add (i * 3)).block, (x.add (i * 3)).off + 1, none⟩ = some (.string f.text) ∧ w.cell? ⟨(x.add (i * 3)).block, (x.add (i * 3)).off + 2, none⟩ = some (.int .i64 f.kept)
theorem ArgF.below {B : Nat} {w w' : World} {a : Option Addr} {l : List Fl} (h : ArgF B w a l) (hb : Below B w w') : ArgF B w' a l := by
  intro i f hf
  obtain ⟨x, h1, h2, h3, h4, c0, c1, c2⟩ := h i f hf
  exact ⟨x, h1, h2, h3, h4, by rw [hb.cell (by rw [add_blk]; exact h2)]; exact c0, by rw [hb.cell (by show (x.add (i * 3)).block < B; rw [add_blk]; exact h2)]; exact c1, by rw [hb.cell (by show (x.add (i * 3)).block < B; rw [add_blk]; exact h2)]; exact c2⟩

theorem ArgF.up {w w' : World} {a : Option Addr} {l : List Fl} (h : ArgF w.heap.size w a l) (hb : Below w.heap.size w w') : ArgF w'.heap.size w' a l := by
  intro i f hf
  obtain ⟨x, h1, h2, h3⟩ := h.below hb i f hf
  exact ⟨x, h1, Nat.lt_of_lt_of_le h2 hb.size, h3⟩

end Go.Proofs.YtihdgfihdecalaaGreatDoor

namespace Go.Proofs.YtihdgfihdecalaaGreatDoor
open Go.RowKit Go.ChangeShapes Go.WideShapes Go.Deep
open Plain
set_option linter.unusedVariables false

def laidI (l : List Int) (k : Nat) : List Int := l.take k ++ List.replicate (l.length - k) 0
theorem intsC_set (l : List Int) (k : Nat) (x : Int) : (intsC l).set k (.int .i64 x) = intsC (l.set k x) := by simp [intsC, List.map_set]
theorem laidI_zero (l : List Int) : laidI l 0 = List.replicate l.length 0 := by simp [laidI]
theorem laidI_all (l : List Int) : laidI l l.length = l := by simp [laidI]
theorem laidI_length (l : List Int) (k : Nat) (h : k ≤ l.length) : (laidI l k).length = l.length := by simp [laidI]; omega
theorem laidI_set (l : List Int) (k : Nat) (h : k < l.length) : (laidI l k).set k l[k] = laidI l (k + 1) := by
  unfold laidI
  have e : l.length - k = (l.length - (k + 1)) + 1 := by omega
  rw [List.set_append_right _ _ (by simp; omega), e, List.replicate_succ]
  have : k - (l.take k).length = 0 := by simp; omega
  rw [this, List.set_cons_zero, List.take_succ_eq_append_getElem h, List.append_assoc]
  rfl

/-- Ints that came in, below block B. -/
def ArgI (B : Nat) (w : World) (a : Option Addr) (l : List Int) : Prop :=
  ∀ i x, l[i]? = some x → ∃ p, a = some p ∧ p.block < B ∧ w.cell? (p.add i) = some (.int .i64 x)
theorem ArgI.below {B : Nat} {w w' : World} {a : Option Addr} {l : List Int} (h : ArgI B w a l) (hb : Below B w w') : ArgI B w' a l := by
  intro i x hx
  obtain ⟨p, h1, h2, h3⟩ := h i x hx
  exact ⟨p, h1, h2, by rw [hb.cell (by rw [add_blk]; exact h2)]; exact h3⟩
theorem ArgI.up {w w' : World} {a : Option Addr} {l : List Int} (h : ArgI w.heap.size w a l) (hb : Below w.heap.size w w') : ArgI w'.heap.size w' a l := by
  intro i f hf
  obtain ⟨x, h1, h2, h3⟩ := h.below hb i f hf
  exact ⟨x, h1, Nat.lt_of_lt_of_le h2 hb.size, h3⟩
theorem OwnI.shape {B : Nat} {w : World} {v : Value} {l : List Int} (h : OwnI B w v l) : ∃ a c, v = .slice a l.length c ∧ ∀ (k : Nat) (x : Int), l[k]? = some x →
    ∃ g, a = some ⟨g, 0, none⟩ ∧ g < w.heap.size ∧ w.cell? ⟨g, k, none⟩ = some (.int .i64 x) := by
  unfold OwnI at h
  rcases h.2 with ⟨rfl, h0⟩ | ⟨g, c, cur, rfl, hb, hh, _⟩
  · refine ⟨none, 0, by rw [h0], fun k f hf => ?_⟩
    rw [List.eq_nil_of_length_eq_zero h0] at hf
    simp at hf
  · refine ⟨_, _, rfl, fun k x hf => ⟨g, rfl, (h.lt _ rfl).2, ?_⟩⟩
    have hk : k < l.length := by
      rcases Nat.lt_or_ge k l.length with h1 | h1
      · exact h1
      · rw [List.getElem?_eq_none h1] at hf; cases hf
    rw [h.cellAt _ (by omega), intsC_get hf]

set_option maxHeartbeats 1000000 in
set_option maxRecDepth 100000 in
theorem eqIntS_same (l : List Int) (v1 v2 : Value) (B1 B2 : Nat) (w : World) (hs : l.length ≤ 1048576)
    (h1 : OwnI B1 w v1 l) (h2 : OwnI B2 w v2 l) :
    Calls Tryz.prog 11 #[v1, v2] w fun e w' => e = .returned (.bool true) ∧ Below w.heap.size w w' := by
  obtain ⟨a1, c1, rfl, k1⟩ := h1.shape
  obtain ⟨a2, c2, rfl, k2⟩ := h2.shape
  have C1 := hide k1
  have C2 := hide k2
  clear h1 h2 k1 k2
  go_enter Tryz.func11, Tryz.ntmps11
  go_wp2
  go_loopw [5] (fun i wr => ∃ k q : Nat, k ≤ l.length ∧ i = .int .i64 k ∧ wr = w.drewN q) (fun i _ => l.length - (intOf i).toNat)
  case atStart => exact ⟨0, 0, Nat.zero_le _, rfl, rfl⟩
  case round =>
    obtain ⟨k, q, hk, rfl, rfl⟩ := hrel
    by_cases hlt : k < l.length
    · obtain ⟨g1, rfl, _, e1⟩ := unhide C1 k l[k] (List.getElem?_eq_getElem hlt)
      obtain ⟨g2, rfl, _, e2⟩ := unhide C2 k l[k] (List.getElem?_eq_getElem hlt)
      generalize l[k] = x at e1 e2
      go_wp2
      go_quiet (fail)
      go_wp2
      go_roundw
      case rel => exact ⟨k + 1, _, by omega, by go_num, rfl⟩
      case measure => simp [intOf]; omega
    · go_wp2
      go_ret
      exact ⟨rfl, below_draws (Below.refl _ _) _⟩

def marksI (k0 n : Nat) : List Int := (List.range n).map fun j => ((k0 + j : Nat) : Int)
theorem marksI_len (k0 n : Nat) : (marksI k0 n).length = n := by simp [marksI]
set_option maxHeartbeats 1000000 in
set_option maxRecDepth 100000 in
theorem markIntS_any (l : List Int) (v : Value) (B k0 : Nat) (w : World) (hs : l.length ≤ 1048576) (hk1 : k0 ≤ 100000000) (h : OwnI B w v l) :
    Calls Tryz.prog 16 #[v, .int .i64 k0] w fun e w' => e = .returned (.int .i64 ((k0 + l.length : Nat) : Int)) ∧ OwnI B w' v (marksI k0 l.length) ∧ w.grownBy w' v.ownBlock := by
  unfold OwnI at h
  rcases h.2 with ⟨rfl, hz⟩ | ⟨g, cap, cur, rfl, hbg, hh, hrest⟩
  · have e : l = [] := List.eq_nil_of_length_eq_zero hz
    subst e
    go_enter Tryz.func16, Tryz.ntmps16
    go_wp2
    refine wp_loop_rounds 1 ?_
    rw [rounds_succ]
    go_wp2
    go_ret
    exact ⟨by simp, OwnI.nil _ _, ⟨rfl, rfl, rfl, Nat.le_refl _, fun _ _ _ => rfl⟩⟩
  · clear hh hrest
    obtain ⟨xs, hxs⟩ : ∃ xs, xs = intsC l := ⟨_, rfl⟩
    rw [← hxs] at h
    have hxl : xs.length = l.length := by rw [hxs, intsC_len]
    clear hxs
    go_enter Tryz.func16, Tryz.ntmps16
    have HX := hide hxl
    clear hxl
    go_wp2
    go_loopw [1, 5] (fun m i wr => ∃ (k : Nat) (xs : List Value), k ≤ l.length ∧ i = .int .i64 k ∧ m = .int .i64 ((k0 + k : Nat) : Int) ∧ xs.length = l.length ∧ (∀ j, j < k → xs[j]? = some (.int .i64 ((k0 + j : Nat) : Int))) ∧ wr.ownsRow B 3 1 (.slice (some ⟨g, 0, none⟩) l.length cap) l.length xs ∧ w.grownBy wr (some g)) (fun _ i _ => l.length - (intOf i).toNat)
    case atStart => exact ⟨0, xs, Nat.zero_le _, rfl, rfl, unhide HX, fun j hj => absurd hj (Nat.not_lt_zero j), h, ⟨rfl, rfl, rfl, Nat.le_refl _, fun _ _ _ => rfl⟩⟩
    case round =>
      obtain ⟨k, ys, hk, rfl, rfl, hyl, hmk, hown, hbel⟩ := hrel
      clear h
      by_cases hlt : k < l.length
      · have f0 := hown.frozenAt k
        have d0 : ∃ y, wr.cell? ⟨g, k, none⟩ = some y := by
          rw [hown.cellAt k (by omega)]
          exact ⟨_, List.getElem?_eq_getElem (by omega)⟩
        obtain ⟨y, d0⟩ := d0
        have HST := hide (hown.stored k (.int .i64 ((k0 + k : Nat) : Int))).1
        have hB : Hid (w.grownBy (wr.setCell ⟨g, k, none⟩ (.int .i64 ((k0 + k : Nat) : Int))) (some g)) := ⟨hbel.os, hbel.tape, hbel.output, by simpa using hbel.size, fun q hq hne => (Below.heap_setCell _ _ _ q (fun e => hne (by rw [e]))).trans (hbel.block q hq hne)⟩
        have HY := hide hyl
        have HM := hide hmk
        clear hown hyl hmk
        go_wp2
        go_roundw
        case rel => exact ⟨k + 1, _, by omega, by go_num, by go_num, by rw [List.length_set]; exact unhide HY, fun j hj => (by by_cases e : j = k; subst e; rw [List.getElem?_set_self (by have := unhide HY; omega)]; rw [List.getElem?_set_ne (fun h => e h.symm)]; exact unhide HM j (by omega)), unhide HST, unhide hB⟩
        case measure => simp [intOf]; omega
      · have e : k = l.length := by omega
        subst e
        have HM := hide hmk
        have HY := hide hyl
        have HO := hide hown
        clear hmk hyl hown
        go_wp2
        go_ret
        refine ⟨rfl, ?_, hbel⟩
        have e : ys = intsC (marksI k0 l.length) := by
          refine List.ext_getElem? fun j => ?_
          by_cases hj : j < l.length
          · rw [unhide HM j hj]; simp [intsC, marksI, hj]
          · rw [List.getElem?_eq_none (by have := unhide HY; omega), List.getElem?_eq_none (by simp [intsC, marksI]; omega)]
        unfold OwnI
        rw [← e, marksI_len]
        exact unhide HO

set_option maxHeartbeats 1000000 in
set_option maxRecDepth 100000 in
theorem heldIntS_any (n : Nat) (v : Value) (B k0 : Nat) (w : World) (hs : n ≤ 1048576) (hk1 : k0 ≤ 100000000) (h : OwnI B w v (marksI k0 n)) :
    Calls Tryz.prog 17 #[v, .int .i64 k0] w fun e w' => e = .returned (.int .i64 ((k0 + n : Nat) : Int)) ∧ Below w.heap.size w w' := by
  obtain ⟨a, c, rfl, hc⟩ := h.shape
  rw [marksI_len]
  have HC := hide hc
  clear h hc
  go_enter Tryz.func17, Tryz.ntmps17
  go_wp2
  go_loopw [1, 5] (fun m i wr => ∃ k q : Nat, k ≤ n ∧ i = .int .i64 k ∧ m = .int .i64 ((k0 + k : Nat) : Int) ∧ wr = w.drewN q) (fun _ i _ => n - (intOf i).toNat)
  case atStart => exact ⟨0, 0, Nat.zero_le _, rfl, rfl, rfl⟩
  case round =>
    obtain ⟨k, q, hk, rfl, rfl, rfl⟩ := hrel
    by_cases hlt : k < n
    · obtain ⟨g, rfl, _, c0⟩ := unhide HC k ((k0 + k : Nat) : Int) (by simp [marksI, hlt])
      go_wp2
      go_roundw
      case rel => exact ⟨k + 1, _, by omega, by go_num, by go_num, rfl⟩
      case measure => simp [intOf]; omega
    · have e : k = n := by omega
      subst e
      go_wp2
      go_ret
      exact ⟨rfl, below_draws (Below.refl _ _) _⟩

end Go.Proofs.YtihdgfihdecalaaGreatDoor
