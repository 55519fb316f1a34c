/- Words that came in: what the laws' own helpers do to them. Made by gen_wordarg.py. -/
import Derived.Test.YtjaohlnejkgkaaaDoorRowsA
import Derived.Test.YtjaohlnejkgkaaaDoorMarks
import Derived.Deep.Strs
import Derived.Laws.OwnMore
namespace Go.Proofs.YtjaohlnejkgkaaaDoor
open Go.RowKit Go.ChangeShapes Go.WideShapes Go.ChangeAt Go.Deep
open Plain
set_option linter.unusedVariables false
set_option linter.unusedSimpArgs false

set_option linter.constructorNameAsVariable false
/-- Words that came in, below block B. -/
def ArgW (B : Nat) (w : World) (a : Option Addr) (l : List (List UInt8)) : Prop :=
  ∀ i x, l[i]? = some x → ∃ p, a = some p ∧ p.block < B ∧ w.cell? (p.add i) = some (.string ⟨x.toArray⟩) ∧ x.length ≤ maxLen
theorem ArgW.up {w w' : World} {a : Option Addr} {l : List (List UInt8)} (h : ArgW w.heap.size w a l) (hb : Below w.heap.size w w') : ArgW w'.heap.size w' a l := by
  intro i x hx
  obtain ⟨p, h1, h2, h3, h4⟩ := h i x hx
  exact ⟨p, h1, Nat.lt_of_lt_of_le h2 hb.size, (hb.cell (by rw [g_add]; exact h2)).trans h3, h4⟩
set_option maxRecDepth 100000 in
theorem open_words {H : Type} {enc : TypeId × Value → H} {W : World} {base : Nat} {v : Value} {d : DataW H} {ps : List MemPlace} (hval : Value.okWide Tryd.prog W .any base 22 v)
    (h : DataW.Trod enc Tryd.prog W 0 (fun _ => true) true 22 v d ps) :
    ∃ (a : Option Addr) (cap : Nat) (l : List (List UInt8)), v = .slice a l.length cap ∧ l.length ≤ maxLen ∧ ArgW W.heap.size W a l := by
  obtain ⟨va, vn, vc, rfl⟩ := okWide_slice Tryd.underlying22 hval
  obtain ⟨fuel, hf⟩ := h
  rcases open_strs Tryd.underlying22 Tryd.underlying9 (by kernel_rfl) hf with ⟨hcs, _⟩ | ⟨a, len, cap, m, Sx, hcs, _, hlc, hcm, hm, _, hel⟩
  · simp [Value.cells] at hcs
    obtain ⟨rfl, rfl, rfl⟩ := hcs
    exact ⟨none, 0, [], rfl, Nat.zero_le _, fun i x hx => by simp at hx⟩
  · simp [Value.cells] at hcs
    obtain ⟨rfl, rfl, rfl⟩ := hcs
    have hmn : vn ≤ m := by rw [hm]; split <;> omega
    refine ⟨some a, vc, (List.range vn).map (fun i => (Sx i).data.toList), by simp, by simp; omega, fun i x hx => ?_⟩
    have hi : i < vn := by
      rcases Nat.lt_or_ge i vn with h1 | h1
      · exact h1
      · rw [List.getElem?_eq_none (by simpa using h1)] at hx; cases hx
    obtain rfl : (Sx i).data.toList = x := by simpa [hi] using hx
    obtain ⟨c0, c1⟩ := hel i (by omega)
    refine ⟨a, rfl, ?_, by rw [c0], by show (Sx i).data.size ≤ maxLen; exact c1⟩
    have := World.block_lt_of_cell? W _ c0
    rwa [g_add] at this
def sumW (l : List (List UInt8)) : Nat := (l.map List.length).sum
set_option maxHeartbeats 4000000 in
set_option maxRecDepth 100000 in
theorem szStringS_any (a : Option Addr) (cap : Nat) (l : List (List UInt8)) (q : Nat) (w : World) (hq : q ≤ 1048576) (hl : l.length ≤ maxLen) (h : ArgW w.heap.size w a l) :
    Calls Tryd.prog 6 #[.slice a l.length cap, .int .i64 (q : Int)] w fun e w' => (∃ m, e = .returned (.int .i64 m) ∧ (m = -1 ∨ ∃ r : Nat, m = (r : Int) ∧ r ≤ q ∧ l.length ≤ 1048576 ∧ ∀ x ∈ l, x.length ≤ 1048576)) ∧ Below w.heap.size w w' := by
  have HA := hide h
  clear h
  obtain ⟨n, hn⟩ : ∃ n, n = l.length := ⟨_, rfl⟩
  rw [← hn] at hl ⊢
  have HN := hide hn
  clear hn
  unfold maxLen at hl
  have n1 : IntKind.i64.wrap ((q : Int) - (n : Int)) = (q : Int) - (n : Int) := by rw [IntKind.wrap_i64]; omega
  have BB := hide (Below.refl w.heap.size w)
  go_enter Tryd.func6, Tryd.ntmps6
  by_cases h0 : (q : Int) - (n : Int) < 0
  · have d0 : decide ((q : Int) - (n : Int) < 0) = true := decide_eq_true h0
    go_wp2
    go_ret
    exact ⟨⟨_, rfl, .inl rfl⟩, unhide BB⟩
  · have d0 : decide ((q : Int) - (n : Int) < 0) = false := decide_eq_false h0
    obtain ⟨r0, hr0⟩ : ∃ r : Nat, (q : Int) - (n : Int) = (r : Int) := ⟨q - n, by omega⟩
    have hr1 : r0 ≤ q := by omega
    have hnq : n ≤ 1048576 := by omega
    clear n1
    have n1 : IntKind.i64.wrap ((q : Int) - (n : Int)) = (r0 : Int) := by rw [IntKind.wrap_i64]; omega
    have j0 : ¬ ((r0 : Int) < 0) := by omega
    clear hr0 h0 d0
    go_wp2
    clear j0
    go_loopw [1, 5] (fun u i wr => ∃ k r : Nat, k ≤ n ∧ u = .int .i64 (r : Int) ∧ i = .int .i64 k ∧ r ≤ q ∧ (∀ (j : Nat) (x : List UInt8), j < k → l[j]? = some x → x.length ≤ 1048576) ∧ Below w.heap.size w wr) (fun _ i _ => n - (intOf i).toNat)
    case atStart => exact ⟨0, r0, Nat.zero_le _, rfl, rfl, hr1, fun j x h => by omega, unhide BB⟩
    clear n1 hr1
    case round =>
      obtain ⟨k, r, hk, rfl, rfl, hrq, hall, hbel⟩ := hrel
      have HALL := hide hall
      clear hall
      by_cases hlt : k < n
      · have hkl : k < l.length := by rw [← unhide HN]; exact hlt
        obtain ⟨x, hx⟩ : ∃ x, l[k]? = some x := ⟨_, List.getElem?_eq_getElem hkl⟩
        obtain ⟨p, rfl, hpb, c0, hxm⟩ := unhide HA k x hx
        rw [← hbel.cell (by rw [g_add]; exact hpb)] at c0
        have HX := hide hx
        clear hx hkl
        unfold maxLen at hxm
        have i1 : (0 : Int) ≤ (k : Int) := by omega
        have i2 : (k : Int) < (n : Int) := by omega
        have m1 : k < n := hlt
        by_cases hz : (r : Int) - (x.length : Int) < 0
        · obtain ⟨z, hz0⟩ : ∃ z : Int, z = (r : Int) - (x.length : Int) := ⟨_, rfl⟩
          have n2 : IntKind.i64.wrap ((r : Int) - (x.length : Int)) = z := by rw [IntKind.wrap_i64]; omega
          have d0 : decide (z < 0) = true := decide_eq_true (by omega)
          have j1 : z < 0 := by omega
          clear hz0 hz
          go_wp2
          go_ret
          exact ⟨⟨_, rfl, .inl rfl⟩, hbel⟩
        · obtain ⟨r1, hr1⟩ : ∃ r1 : Nat, (r : Int) - (x.length : Int) = (r1 : Int) := ⟨r - x.length, by omega⟩
          have n2 : IntKind.i64.wrap ((r : Int) - (x.length : Int)) = (r1 : Int) := by rw [IntKind.wrap_i64]; omega
          have hr2 : r1 ≤ q := by omega
          have hxq : x.length ≤ 1048576 := by omega
          have j1 : ¬ ((r1 : Int) < 0) := by omega
          clear hr1 hz
          go_wp2
          go_roundw
          case rel => exact ⟨k + 1, r1, by omega, rfl, by go_num, hr2, fun j y hj hy => by
            by_cases hjk : j < k
            · exact unhide HALL j y hjk hy
            · obtain rfl : j = k := by omega
              rw [unhide HX] at hy
              cases hy
              exact hxq, hbel⟩
          case measure => simp [intOf]; omega
      · obtain rfl : k = n := by omega
        go_wp2
        go_ret
        exact ⟨⟨_, rfl, .inr ⟨r, rfl, hrq, hnq, fun x hx => by
          obtain ⟨j, hj, rfl⟩ := List.mem_iff_getElem.1 hx
          exact unhide HALL j _ (by rw [unhide HN]; exact hj) (List.getElem?_eq_getElem hj)⟩⟩, hbel⟩
def strC (x : List UInt8) : List Value := [.string ⟨x.toArray⟩]
theorem strC_len : ∀ x, (strC x).length = 1 := fun _ => rfl
theorem rowC_strs (l : List (List UInt8)) : rowC strC l = Plain.strs l := by
  induction l with
  | nil => rfl
  | cons x r ih => show strC x ++ rowC strC r = _; rw [ih]; rfl
theorem Tryd.infoStrW : (Tryd.prog.info? 9).map (fun i => (i.zero, i.size, i.bytes)) = some (some (.string ByteArray.empty), 1, 16) := by kernel_rfl
set_option maxHeartbeats 4000000 in
set_option maxRecDepth 100000 in
theorem toStringS_any (a : Option Addr) (cap : Nat) (l : List (List UInt8)) (w : World) (hs : l.length ≤ 1048576) (h : ArgW w.heap.size w a l) :
    Calls Tryd.prog 8 #[.slice a l.length cap] w fun e w' => ∃ v, e = .returned v ∧ w'.ownsRow w.heap.size 9 1 v l.length (Plain.strs l) ∧ Below w.heap.size w w' := by
  obtain ⟨i0, hi, hz0, hz1, hz2⟩ := info_parts Tryd.infoStrW
  have HA := hide h
  clear h
  go_enter Tryd.func8, Tryd.ntmps8
  go_wp2_with (refine wpList_make_full _ rfl _ _ 22 rfl w.heap.size 9 i0 _ 1 Tryd.underlying22 hi hz0 hz1 .i64 .i64 _ _ l.length rfl rfl rfl rfl (by rw [hz2]; omega) (by unfold maxLen; omega) (Nat.le_refl _) ?_; intro wm hown hgm)
  rw [show l.length * 1 = l.length * 1 from rfl, rowC_made strC_len (by decide) (a0 := ([] : List UInt8)) rfl] at hown
  have hgl : w.heap.size < wm.heap.size := (hown.lt _ rfl).2
  go_loopw [4] (fun i wr => ∃ k : Nat, k ≤ l.length ∧ i = .int .i64 k ∧ wr.ownsRow w.heap.size 9 1 (.slice (some ⟨w.heap.size, 0, none⟩) l.length l.length) l.length (rowC strC (laidK [] l k)) ∧ Below w.heap.size w wr) (fun i _ => l.length - (intOf i).toNat)
  case atStart => exact ⟨0, Nat.zero_le _, rfl, by rw [laidK_zero]; exact hown, g_below hgm⟩
  case round =>
    obtain ⟨k, hk, rfl, hownk, hbel⟩ := hrel
    clear hown
    by_cases hlt : k < l.length
    · obtain ⟨p, rfl, hpb, c0, _⟩ := unhide HA k l[k] (List.getElem?_eq_getElem hlt)
      rw [← hbel.cell (by rw [g_add]; exact hpb)] at c0
      have hset := hide (laidK_set [] hlt)
      have hget := laidK_at ([] : List UInt8) hlt
      generalize l[k] = f at *
      have hgr : w.heap.size < wr.heap.size := (hownk.lt _ rfl).2
      have f0 := hownk.frozenAt (k * 1)
      have d0 : wr.cell? ⟨w.heap.size, k * 1, none⟩ = some (.string ⟨#[]⟩) := by rw [hownk.cellAt (k * 1) (by omega)]; exact rowC_get strC_len hget (j := 0) (by decide)
      have st0 := hownk.stored (k * 1) (.string ⟨f.toArray⟩)
      rw [show k * 1 = k * 1 + 0 from rfl, rowC_set strC_len hget (j := 0) (by decide) f (.string ⟨f.toArray⟩) rfl, unhide hset] at st0
      have HST := hide st0.1
      have hB := hide (hbel.setCell (p := ⟨w.heap.size, k * 1, none⟩) (Nat.le_refl _) (.string ⟨f.toArray⟩))
      rw [Nat.mul_one] at f0 d0 HST hB
      simp only [Nat.add_zero] at HST
      have i1 : (0 : Int) ≤ (k : Int) := by omega
      have i2 : (k : Int) < (l.length : Int) := by omega
      clear hownk hget st0
      go_wp2
      go_roundw
      case rel => exact ⟨k + 1, by omega, by go_num, unhide HST, unhide hB⟩
      case measure => simp [intOf]; omega
    · have e : k = l.length := by omega
      subst e
      rw [laidK_all, rowC_strs] at hownk
      go_wp2
      go_ret
      exact ⟨_, rfl, hownk, hbel⟩
end Go.Proofs.YtjaohlnejkgkaaaDoor
