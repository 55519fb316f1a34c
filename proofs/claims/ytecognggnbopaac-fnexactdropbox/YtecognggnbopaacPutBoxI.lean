/- The program's PutBox. Made by gen_stores.py. -/
import Derived.Test.YtecognggnbopaacOpenI2
namespace Go.Proofs.Ytecognggnbopaac
open Go.RowKit
open Plain
set_option linter.unusedVariables false
set_option linter.unusedSimpArgs false

theorem set_cases {P : List (Lb × Nat)} {k : Nat} {q p : Lb × Nat} (h : p ∈ P.set k q) : p = q ∨ ∃ i, i ≠ k ∧ P[i]? = some p := by
  obtain ⟨i, hi⟩ := List.mem_iff_getElem?.1 h
  rw [List.getElem?_set] at hi
  split at hi
  · split at hi
    · exact .inl (Option.some.inj hi).symm
    · cases hi
  · exact .inr ⟨i, fun e => by rename_i hne; exact hne e.symm, hi⟩
theorem aside_at {P : List (Lb × Nat)} (hap : P.Pairwise AsideB) {i k : Nat} {p q : Lb × Nat} (hi : P[i]? = some p) (hk : P[k]? = some q) (hne : i ≠ k) : p.2 ≠ q.2 ∧ ApartB p.1 q.1 := by
  obtain ⟨h1, rfl⟩ := List.getElem?_eq_some_iff.1 hi
  obtain ⟨h2, rfl⟩ := List.getElem?_eq_some_iff.1 hk
  rcases Nat.lt_or_gt_of_ne hne with h | h
  · exact List.pairwise_iff_getElem.1 hap i k h1 h2 h
  · have := List.pairwise_iff_getElem.1 hap k i h2 h1 h
    exact ⟨this.1.symm, this.2.symm⟩
theorem aside_set {P : List (Lb × Nat)} (hap : P.Pairwise AsideB) {k g : Nat} {x y : Lb} (hk : P[k]? = some (x, g)) (hn : ∀ p ∈ P, ApartB p.1 y) : (P.set k (y, g)).Pairwise AsideB := by
  rw [List.pairwise_iff_getElem]
  intro i j hi hj hij
  rw [List.length_set] at hi hj
  have hi' := List.getElem?_eq_getElem hi
  have hj' := List.getElem?_eq_getElem hj
  rw [List.getElem_set, List.getElem_set]
  by_cases h1 : k = i
  · rw [if_pos h1, if_neg (by omega)]
    subst h1
    exact ⟨(aside_at hap hj' hk (by omega)).1.symm, (hn _ (List.getElem_mem hj)).symm⟩
  · rw [if_neg h1]
    by_cases h2 : k = j
    · rw [if_pos h2]
      subst h2
      exact ⟨(aside_at hap hi' hk (by omega)).1, hn _ (List.getElem_mem hi)⟩
    · rw [if_neg h2]
      exact List.pairwise_iff_getElem.1 hap i j hi hj hij
theorem blocks_set {P : List (Lb × Nat)} {k g : Nat} {x : Lb} (y : Lb) (hk : P[k]? = some (x, g)) : (P.set k (y, g)).map (·.2) = P.map (·.2) := by
  rw [List.map_set]
  obtain ⟨h1, h2⟩ := List.getElem?_eq_some_iff.1 hk
  apply List.ext_getElem (by simp)
  intro i hi hi2
  rw [List.getElem_set]
  split
  · rename_i e
    subst e
    rw [List.getElem_map, h2]
  · rfl
theorem ObjsB.write {B : Nat} {W U : World} {P : List (Lb × Nat)} {k g : Nat} {x y : Lb} (h : ObjsB B W P) (hap : P.Pairwise AsideB) (hk : P[k]? = some (x, g)) (F : Filled W g 53 (lbC y) U) (hy : OwnBx B W y.m y.t y.b) : ObjsB B U (P.set k (y, g)) := by
  intro p hp
  rcases set_cases hp with rfl | ⟨i, hne, hi⟩
  · exact ⟨(h _ (List.mem_of_getElem? hk)).1, F.obj, ⟨F.row (by decide) hy.1, F.row (by decide) hy.2⟩⟩
  · have hm := h p (List.mem_of_getElem? hi)
    exact ⟨hm.1, F.other (aside_at hap hi hk hne).1 hm.2.1, ⟨F.row (by decide) hm.2.2.1, F.row (by decide) hm.2.2.2⟩⟩
theorem own_of {B : Nat} {w w' : World} {v' : Value} {P : List (Lb × Nat)} {l : List Bx} (ho : ObjsB B w P) (hap : P.Pairwise AsideB) (hP : P.map (·.1.b) = l) (hr : OwnBr w.heap.size w' v' (P.map (·.1))) (hb : Below w.heap.size w w') (hB : B ≤ w.heap.size) : OwnSt B w' v' l := by
  refine ⟨P.map (·.1), by rw [List.map_map]; exact hP, ⟨hr.based hB, fun x hx => ?_⟩, ?_⟩
  · obtain ⟨p, hp, rfl⟩ := List.mem_map.1 hx
    exact (ho p hp).2.2.up hb
  · rw [List.pairwise_map]
    exact hap.imp fun h => h.2
end Go.Proofs.Ytecognggnbopaac
