/- A row out of which some go, plainly; a row that is cleared behind a place. -/
import Derived.Test.YtecognggnbopaacIntRow
import Derived.Test.YtecognggnbopaacBoxA
import Derived.Lib.SliceRun
namespace Go.Proofs.Ytecognggnbopaac
open Go.RowKit
set_option linter.unusedVariables false

theorem own_cells {base g n cap size : Nat} {e : TypeId} : ∀ (cs : List Value) (o : Nat) (w : World) (xs : List Value), w.ownsRow base e size (.slice (some ⟨g, 0, none⟩) n cap) n xs → ∃ ys, (w.setCells g o cs).ownsRow base e size (.slice (some ⟨g, 0, none⟩) n cap) n ys ∧ ys.take o = xs.take o ∧ w.grownBy (w.setCells g o cs) (some g) := by
  intro cs
  induction cs with
  | nil => intro o w xs h; exact ⟨xs, h, rfl, g_self _ _⟩
  | cons v r ih =>
    intro o w xs h
    have h1 := World.ownsRow.stored h o v
    obtain ⟨ys, h2, h3, h4⟩ := ih (o + 1) _ _ h1.1
    refine ⟨ys, h2, ?_, g_join h1.2 h4⟩
    have e1 : ys.take o = (ys.take (o + 1)).take o := by rw [List.take_take]; congr 1; omega
    rw [e1, h3, List.take_take, Nat.min_eq_left (by omega), List.take_set_of_le (by omega)]
theorem own_cut {w : World} {base g n cap size i : Nat} {e : TypeId} {xs : List Value} (h : w.ownsRow base e size (.slice (some ⟨g, 0, none⟩) n cap) n xs) (hi : i ≤ n) : w.ownsRow base e size (.slice (some ⟨g, 0, none⟩) i cap) i (xs.take (i * size)) := by
  rcases h.2 with ⟨h', _⟩ | ⟨g', cap', cur, h', hb, hg, hnc, hcm, hcs, ht⟩
  · cases h'
  · cases h'
    have hle : i * size ≤ n * size := Nat.mul_le_mul_right _ hi
    refine ⟨by rw [List.length_take, h.1]; omega, .inr ⟨g, cap, cur, rfl, hb, hg, by omega, hcm, hcs, ?_⟩⟩
    rw [← ht, List.take_take, Nat.min_eq_left hle]
theorem run_clear_row {P : Program} (w : World) (t e ty : TypeId) (z : Value) (ht : P.underlying t = some (.slice e)) (hv : ∀ w, (zeroValue e).run P w = .ok z w) (b o n c : Nat) (hn : 0 < n)
    (hc : ∀ j, j < n * z.cells.size → (w.cell? ⟨b, o + j, none⟩).isSome = true) (hf : ∀ j, j < n * z.cells.size → w.frozen? ⟨b, o + j, none⟩ = false) (h1 : ∀ v ∈ (Builtin.zeroCells z.cells n).toList, v.oneCell' = true) :
    (Builtin.clear_ #[t] ty #[.slice (some ⟨b, o, none⟩) n c]).run P w = .ok (.tuple #[]) (w.setCells b o (Builtin.zeroCells z.cells n).toList) := by
  have hlen : (Builtin.zeroCells z.cells n).toList.length = n * z.cells.size := by simp [Builtin.zeroCells]
  have hst := run_storeCells_cells (P := P) b o (Builtin.zeroCells z.cells n).toList 0 w (by rw [hlen]; simpa using hc) (by rw [hlen]; simpa using hf) h1
  simp only [Nat.add_zero] at hst
  obtain ⟨m, rfl⟩ : ∃ m, n = m + 1 := ⟨n - 1, by omega⟩
  simp [Builtin.clear_, run_underlying ht, hv, hst]
namespace Plain
variable {α : Type}
/-- What is under way: of the first j those that stay lie at the beginning; from j on all is as it was. -/
structure GoInv (p : α → Bool) (l cur : List α) (i j : Nat) : Prop where
  len : cur.length = l.length
  lt : i < j
  le : j ≤ l.length
  low : cur.take i = (l.take j).filter p
  high : cur.drop j = l.drop j
theorem GoInv.start {p : α → Bool} {l : List α} {k : Nat} (hk : k < l.length) (h : ∀ j (hj : j < k), p (l[j]'(by omega)) = true) (hn : p l[k] = false) : GoInv p l l k (k + 1) := by
  refine ⟨rfl, by omega, hk, ?_, rfl⟩
  rw [List.take_add_one, List.getElem?_eq_getElem hk, List.filter_append]
  have e1 : (l.take k).filter p = l.take k := by
    rw [List.filter_eq_self]
    intro a ha
    obtain ⟨j, hj, rfl⟩ := List.mem_take_iff_getElem.1 ha
    exact h j (by omega)
  rw [e1]
  simp [hn]
theorem GoInv.at {p : α → Bool} {l cur : List α} {i j : Nat} (h : GoInv p l cur i j) (hj : j < l.length) : cur[j]? = some l[j] := by
  have : (cur.drop j)[0]? = (l.drop j)[0]? := by rw [h.high]
  rw [List.getElem?_drop, List.getElem?_drop, Nat.add_zero] at this
  rw [this, List.getElem?_eq_getElem hj]
theorem GoInv.keep {p : α → Bool} {l cur : List α} {i j : Nat} (h : GoInv p l cur i j) (hj : j < l.length) (hp : p l[j] = true) : GoInv p l (cur.set i l[j]) (i + 1) (j + 1) := by
  have hil : i < cur.length := by have := h.len; have := h.lt; omega
  have := h.lt
  refine ⟨by simp [h.len], by omega, by omega, ?_, ?_⟩
  · rw [List.take_add_one, List.getElem?_set_self hil, List.take_set_of_le (Nat.le_refl _), h.low, List.take_add_one, List.getElem?_eq_getElem hj, List.filter_append]
    simp [hp]
  · rw [List.drop_set_of_lt (by omega)]
    have : cur.drop (j + 1) = (cur.drop j).drop 1 := by rw [List.drop_drop]
    rw [this, h.high, List.drop_drop]
theorem GoInv.skip {p : α → Bool} {l cur : List α} {i j : Nat} (h : GoInv p l cur i j) (hj : j < l.length) (hp : p l[j] = false) : GoInv p l cur i (j + 1) := by
  have := h.lt
  refine ⟨h.len, by omega, by omega, ?_, ?_⟩
  · rw [h.low, List.take_add_one, List.getElem?_eq_getElem hj, List.filter_append]
    simp [hp]
  · have : cur.drop (j + 1) = (cur.drop j).drop 1 := by rw [List.drop_drop]
    rw [this, h.high, List.drop_drop]
theorem GoInv.done {p : α → Bool} {l cur : List α} {i : Nat} (h : GoInv p l cur i l.length) : cur.take i = l.filter p ∧ (l.filter p).length = i := by
  have h1 := h.low
  rw [List.take_length] at h1
  refine ⟨h1, ?_⟩
  rw [← h1, List.length_take, h.len]
  have := h.lt
  omega
end Plain
end Go.Proofs.Ytecognggnbopaac
