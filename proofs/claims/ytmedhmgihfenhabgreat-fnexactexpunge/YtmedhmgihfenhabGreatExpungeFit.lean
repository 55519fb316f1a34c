/- Those that are told to go, plainly: what the program trims is what the specification trims. -/
import Derived.Test.YtmedhmgihfenhabGreatBuryI
import Derived.Test.YtmedhmgihfenhabGreatUidsPlain
namespace Go.Proofs.YtmedhmgihfenhabGreat.Plain
open Go.RowKit
set_option linter.unusedVariables false

theorem tombs_asc {b : Bx} (h : boxOk b = true) : b.tombs.Pairwise (fun x y => x.mod ≤ y.mod) := by
  have hT := (boxOk_iff.1 h).2.2
  have step : ∀ i, i + 1 < b.tombs.length → (b.tombs.map (·.mod)).getD i 0 ≤ (b.tombs.map (·.mod)).getD (i + 1) 0 := fun i hi => by
    have h1 := (tomb_parts hi (hT (i + 1) hi)).1
    rw [tombIn_is (List.getElem?_eq_getElem hi)] at h1
    simp only [before, List.getElem?_eq_getElem (show i < b.tombs.length by omega), Bool.and_eq_true] at h1
    have h2 := h1.2.2
    unfold tombLess at h2
    simp only [List.getD_eq_getElem?_getD, List.getElem?_map, List.getElem?_eq_getElem hi, List.getElem?_eq_getElem (show i < b.tombs.length by omega), Option.map_some, Option.getD_some]
    rw [Bool.or_eq_true, Bool.and_eq_true] at h2
    rcases h2 with h2 | h2
    · have := of_decide_eq_true h2; omega
    · have := of_decide_eq_true h2.1; omega
  have all : ∀ j i, i < j → j < b.tombs.length → (b.tombs.map (·.mod)).getD i 0 ≤ (b.tombs.map (·.mod)).getD j 0 := by
    intro j
    induction j with
    | zero => intro i hi; omega
    | succ j ih =>
      intro i hi hj
      have h1 := step j hj
      by_cases e : i = j
      · subst e; exact h1
      · have := ih i (by omega) (by omega); omega
  rw [List.pairwise_iff_getElem]
  intro i j hi hj hij
  have := all j i hij hj
  simpa only [List.getD_eq_getElem?_getD, List.getElem?_map, List.getElem?_eq_getElem hi, List.getElem?_eq_getElem hj, Option.map_some, Option.getD_some] using this
theorem tomb_mods {b : Bx} (h : boxOk b = true) : ∀ t ∈ b.tombs, b.hor < t.mod ∧ t.mod ≤ b.mod := by
  intro t ht
  obtain ⟨i, hi, rfl⟩ := List.getElem_of_mem ht
  have h1 := (tomb_parts hi ((boxOk_iff.1 h).2.2 i hi)).1
  rw [tombIn_is (List.getElem?_eq_getElem hi)] at h1
  rw [Bool.and_eq_true, Bool.and_eq_true] at h1
  have := inI_iff.1 h1.2.1
  omega
theorem trims_same {b : Bx} (us : List Int) (h : boxOk b = true) : trimJ (b.tombs ++ buriedL (b.mod + 1) us) b.hor = trimmed (b.tombs ++ tombsOf b us) b.hor := by
  have hh : 0 ≤ b.hor ∧ b.hor ≤ b.mod := by
    have := (boxOk_iff.1 h).1
    unfold headOk at this
    simp only [Bool.and_eq_true] at this
    exact inI_iff.1 this.2.2.2.2.2.2
  have e : buriedL (b.mod + 1) us = tombsOf b us := rfl
  rw [e]
  unfold trimJ trimmed
  refine trim_same _ _ _ ?_ ?_
  · rw [List.pairwise_append]
    refine ⟨tombs_asc h, ?_, ?_⟩
    · unfold tombsOf
      rw [List.pairwise_map]
      exact List.pairwise_of_forall (fun _ _ => Int.le_refl _)
    · intro x hx y hy
      obtain ⟨u, _, rfl⟩ := List.mem_map.1 hy
      have := (tomb_mods h x hx).2
      show x.mod ≤ b.mod + 1
      omega
  · intro t ht
    rcases List.mem_append.1 ht with ht | ht
    · exact (tomb_mods h t ht).1
    · obtain ⟨u, _, rfl⟩ := List.mem_map.1 ht
      show b.hor < b.mod + 1
      omega
end Go.Proofs.YtmedhmgihfenhabGreat.Plain
