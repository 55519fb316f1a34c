/- Rows of elements of several cells, whatever they are: plain facts. -/
import Derived.Test.YtkjlponggednoacOwn
import Derived.Deep.Slices
namespace Go.Proofs.Ytkjlponggednoac.Plain
open Go Go.RowKit
set_option linter.unusedVariables false

def rowC {α : Type} (enc : α → List Value) (l : List α) : List Value := l.flatMap enc
theorem rowC_append {α : Type} (enc : α → List Value) (a b : List α) : rowC enc (a ++ b) = rowC enc a ++ rowC enc b := List.flatMap_append
theorem rowC_one {α : Type} (enc : α → List Value) (a : α) : rowC enc [a] = enc a := by simp [rowC]
theorem rowC_snoc {α : Type} (enc : α → List Value) (l : List α) (a : α) : rowC enc (l ++ [a]) = rowC enc l ++ enc a := by rw [rowC_append, rowC_one]
theorem rowC_len {α : Type} {enc : α → List Value} {k : Nat} (hk : ∀ a, (enc a).length = k) (l : List α) : (rowC enc l).length = l.length * k := by
  induction l with
  | nil => simp [rowC]
  | cons a l ih => rw [show rowC enc (a :: l) = enc a ++ rowC enc l from rfl, List.length_append, ih, hk, List.length_cons, Nat.add_mul, Nat.one_mul, Nat.add_comm]
theorem rowC_get {α : Type} {enc : α → List Value} {k : Nat} (hk : ∀ a, (enc a).length = k) {l : List α} {i : Nat} {a : α} (h : l[i]? = some a) {j : Nat} (hj : j < k) : (rowC enc l)[i * k + j]? = (enc a)[j]? := by
  induction l generalizing i with
  | nil => simp at h
  | cons b l ih =>
    rw [show rowC enc (b :: l) = enc b ++ rowC enc l from rfl]
    cases i with
    | zero =>
      simp at h
      subst h
      rw [Nat.zero_mul, Nat.zero_add, List.getElem?_append_left (by rw [hk]; exact hj)]
    | succ i =>
      rw [List.getElem?_append_right (by rw [hk, Nat.add_mul, Nat.one_mul]; omega), hk, show (i + 1) * k + j - k = i * k + j by rw [Nat.add_mul, Nat.one_mul]; omega]
      exact ih (by simpa using h)
theorem rowC_set {α : Type} {enc : α → List Value} {k : Nat} (hk : ∀ a, (enc a).length = k) {l : List α} {i : Nat} {a : α} (h : l[i]? = some a) {j : Nat} (hj : j < k) (b : α) (u : Value) (he : enc b = (enc a).set j u) :
    (rowC enc l).set (i * k + j) u = rowC enc (l.set i b) := by
  induction l generalizing i with
  | nil => simp at h
  | cons c l ih =>
    rw [show rowC enc (c :: l) = enc c ++ rowC enc l from rfl]
    cases i with
    | zero =>
      simp at h
      subst h
      rw [Nat.zero_mul, Nat.zero_add, List.set_append_left _ _ (by rw [hk]; exact hj), List.set_cons_zero, show rowC enc (b :: l) = enc b ++ rowC enc l from rfl, he]
    | succ i =>
      rw [List.set_append_right _ _ (by rw [hk, Nat.add_mul, Nat.one_mul]; omega), hk, show (i + 1) * k + j - k = i * k + j by rw [Nat.add_mul, Nat.one_mul]; omega, ih (by simpa using h), List.set_cons_succ]
      rfl
theorem rowC_made {α : Type} {enc : α → List Value} {k : Nat} (hk : ∀ a, (enc a).length = k) (h0 : 0 < k) {z : Value} {a0 : α} (hz : z.cells.toList = enc a0) (n : Nat) : (madeCells z.cells (n * k)).toList = rowC enc (List.replicate n a0) := by
  have hs : z.cells.size = k := by rw [← Array.length_toList, hz, hk]
  apply List.ext_getElem?
  intro i
  have hi : i = i / k * k + i % k := by rw [Nat.mul_comm]; exact (Nat.div_add_mod i k).symm
  have hj : i % k < k := Nat.mod_lt _ h0
  by_cases hq : i / k < n
  · have hm : i < n * k := by
      have h2 : (i / k + 1) * k ≤ n * k := Nat.mul_le_mul_right k hq
      rw [Nat.add_mul, Nat.one_mul] at h2
      omega
    have e : (rowC enc (List.replicate n a0))[i]? = (enc a0)[i % k]? := by
      rw [hi, rowC_get hk (a := a0) (by simp [hq]) hj]
      congr 1
      rw [← hi]
    rw [e, Array.getElem?_toList, madeCells, Array.getElem?_map, Array.getElem?_eq_getElem (by simp; omega), Array.getElem_range, Option.map_some, ← hz, hs]
    rw [Array.getElem?_toList, Array.getElem?_eq_getElem (by omega)]
    congr 1
    exact getElem!_pos z.cells (i % k) (by omega)
  · have hm : n * k ≤ i := by
      have h2 : n * k ≤ i / k * k := Nat.mul_le_mul_right k (by omega)
      omega
    rw [List.getElem?_eq_none (by simp [madeCells]; omega), List.getElem?_eq_none (by rw [rowC_len hk]; simpa using hm)]
/-- A row under way: the first ones are laid. -/
def laidK {α : Type} (a0 : α) (l : List α) (i : Nat) : List α := l.take i ++ List.replicate (l.length - i) a0
theorem laidK_zero {α : Type} (a0 : α) (l : List α) : laidK a0 l 0 = List.replicate l.length a0 := by simp [laidK]
theorem laidK_all {α : Type} (a0 : α) (l : List α) : laidK a0 l l.length = l := by simp [laidK]
theorem laidK_len {α : Type} (a0 : α) {l : List α} {i : Nat} (h : i ≤ l.length) : (laidK a0 l i).length = l.length := by simp [laidK]; omega
theorem laidK_at {α : Type} (a0 : α) {l : List α} {i : Nat} (h : i < l.length) : (laidK a0 l i)[i]? = some a0 := by
  unfold laidK
  rw [List.getElem?_append_right (by simp; omega), show i - (l.take i).length = 0 by simp; omega, List.getElem?_replicate, if_pos (by omega)]
theorem laidK_set {α : Type} (a0 : α) {l : List α} {i : Nat} (h : i < l.length) : (laidK a0 l i).set i l[i] = laidK a0 l (i + 1) := by
  unfold laidK
  rw [List.set_append_right _ _ (by simp; omega)]
  have e1 : i - (l.take i).length = 0 := by simp; omega
  have e2 : l.take (i + 1) = l.take i ++ [l[i]] := List.take_succ_eq_append_getElem h
  have e3 : l.length - i = (l.length - (i + 1)) + 1 := by omega
  rw [e1, e3, List.replicate_succ, List.set_cons_zero, e2, List.append_assoc]
  rfl
/-- Rows of marks. -/
def marksK {α : Type} (mk : Nat → α) (s k0 n : Nat) : List α := (List.range n).map fun i => mk (k0 + i * s)
def markedK {α : Type} (mk : Nat → α) (s k0 : Nat) (l : List α) (i : Nat) : List α := marksK mk s k0 i ++ l.drop i
theorem marksK_len {α : Type} (mk : Nat → α) (s k0 n : Nat) : (marksK mk s k0 n).length = n := by simp [marksK]
theorem marksK_get {α : Type} {mk : Nat → α} {s k0 n i : Nat} (h : i < n) : (marksK mk s k0 n)[i]? = some (mk (k0 + i * s)) := by simp [marksK, h]
theorem marksK_succ {α : Type} (mk : Nat → α) (s k0 n : Nat) : marksK mk s k0 (n + 1) = marksK mk s k0 n ++ [mk (k0 + n * s)] := by simp [marksK, List.range_succ]
theorem markedK_zero {α : Type} (mk : Nat → α) (s k0 : Nat) (l : List α) : markedK mk s k0 l 0 = l := by simp [markedK, marksK]
theorem markedK_all {α : Type} (mk : Nat → α) (s k0 : Nat) (l : List α) : markedK mk s k0 l l.length = marksK mk s k0 l.length := by simp [markedK]
theorem markedK_len {α : Type} (mk : Nat → α) (s k0 : Nat) {l : List α} {i : Nat} (h : i ≤ l.length) : (markedK mk s k0 l i).length = l.length := by simp [markedK, marksK_len]; omega
theorem markedK_at {α : Type} (mk : Nat → α) (s k0 : Nat) {l : List α} {i : Nat} (h : i < l.length) : (markedK mk s k0 l i)[i]? = some l[i] := by
  unfold markedK
  rw [List.getElem?_append_right (by rw [marksK_len]; omega), marksK_len]
  simp [h]
theorem markedK_set {α : Type} (mk : Nat → α) (s k0 : Nat) {l : List α} {i : Nat} (h : i < l.length) : (markedK mk s k0 l i).set i (mk (k0 + i * s)) = markedK mk s k0 l (i + 1) := by
  unfold markedK
  rw [List.set_append_right _ _ (by rw [marksK_len]; omega), marksK_len, Nat.sub_self, List.drop_eq_getElem_cons h, List.set_cons_zero, marksK_succ]
  simp
theorem set_at {α : Type} {l : List α} {i : Nat} {a : α} (b : α) (h : l[i]? = some a) : (l.set i b)[i]? = some b := by
  have hi := (List.getElem?_eq_some_iff.1 h).1
  simp [hi]
theorem rowC_set2 {α : Type} {enc : α → List Value} {k : Nat} (hk : ∀ a, (enc a).length = k) {l : List α} {i : Nat} {a : α} (h : l[i]? = some a) (b : α) {j : Nat} (hj : j < k) (c : α) (u : Value) (he : enc c = (enc b).set j u) :
    (rowC enc (l.set i b)).set (i * k + j) u = rowC enc (l.set i c) := by rw [rowC_set hk (set_at b h) hj c u he, List.set_set]
end Go.Proofs.Ytkjlponggednoac.Plain
