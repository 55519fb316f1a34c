/- What is known of boxes and rows, carried on: boxes by their blocks. -/
import Derived.Test.YtnlcknklghalkaaLedger
import Derived.Test.YtnlcknklghalkaaBoxF
import Derived.Test.YtnlcknklghalkaaShelfDo
namespace Go.Proofs.Ytnlcknklghalkaa
open Go.RowKit
open Plain
set_option linter.unusedVariables false

theorem row_up {w w' : World} {b : Nat} {o : Obj} (h : w.heap[b]? = some o) (hb : Below w.heap.size w w') : w'.heap[b]? = some o := (hb.block b (Array.getElem?_eq_some_iff.1 h).1).trans h
theorem row_lt {w : World} {b : Nat} {o : Obj} (h : w.heap[b]? = some o) : b < w.heap.size := (Array.getElem?_eq_some_iff.1 h).1
theorem row_far {w w' : World} {b B : Nat} {o : Obj} (h : w.heap[b]? = some o) (hb : Below B w w') (hl : b < B) : w'.heap[b]? = some o := (hb.block b hl).trans h
theorem row_aside {w w' : World} {b B n m : Nat} {cs : Array Value} {t e : TypeId} {fr : Nat × Nat} {u : Value} {xs : List Value} (h : w.heap[b]? = some (.cells cs t fr)) (ho : w.ownsRow B e m u n xs) (ht : t ≠ e) (hg : w.grownBy w' u.ownBlock) : w'.heap[b]? = some (.cells cs t fr) := by
  refine (hg.block b (row_lt h) fun eq => ?_).trans h
  rcases ho.2 with ⟨rfl, _⟩ | ⟨g, cap, cur, rfl, _, hh, _⟩
  · cases eq
  · have eq : b = g := Option.some.inj eq
    subst eq
    rw [h] at hh
    cases hh
    exact ht rfl
theorem own_aside {w w' : World} {B n m lo hi lo' hi' : Nat} {e : TypeId} {v u : Value} {xs : List Value} (h : w.ownsRow B e m v n xs) (hg : w.grownBy w' u.ownBlock) (h1 : ∀ b, v.ownBlock = some b → lo ≤ b ∧ b < hi) (h2 : ∀ b, u.ownBlock = some b → lo' ≤ b ∧ b < hi') (hd : hi ≤ lo' ∨ hi' ≤ lo) : w'.ownsRow B e m v n xs := by
  refine ⟨h.1, ?_⟩
  rcases h.2 with h3 | ⟨g, cap, cur, hv, hB, hh, h4⟩
  · exact .inl h3
  · refine .inr ⟨g, cap, cur, hv, hB, (hg.block g (row_lt hh) fun e => ?_).trans hh, h4⟩
    have a1 := h1 g (by rw [hv]; rfl)
    have a2 := h2 g e.symm
    omega
theorem own_shape {w : World} {B n m : Nat} {e : TypeId} {v : Value} {xs : List Value} (h : w.ownsRow B e m v n xs) : ∃ a k c, v = .slice a k c := by
  rcases h.2 with ⟨h, _⟩ | ⟨_, _, _, h, _⟩ <;> exact ⟨_, _, _, h⟩
theorem row_set {w : World} {b c : Nat} {o : Obj} {u : Value} (h : w.heap[b]? = some o) (hne : b ≠ c) : (w.setCell ⟨c, 0, none⟩ u).heap[b]? = some o := (Below.heap_setCell w ⟨c, 0, none⟩ u b hne).trans h
theorem row_cell {w : World} {b : Nat} {x : Value} {t : TypeId} (h : w.heap[b]? = some (.cells #[x] t (0, 0))) : w.cell? ⟨b, 0, none⟩ = some x := cell_of_row w b 0 _ _ (0, 0) h
theorem row_frozen {w : World} {b : Nat} {x : Value} {t : TypeId} (h : w.heap[b]? = some (.cells #[x] t (0, 0))) : w.frozen? ⟨b, 0, none⟩ = false := frozen_of_row w b 0 _ _ h
theorem row_cell4 {w : World} {b : Nat} {x y z u : Value} {t : TypeId} (h : w.heap[b]? = some (.cells #[x, y, z, u] t (0, 0))) : w.cell? ⟨b, 0, none⟩ = some x ∧ w.cell? ⟨b, 1, none⟩ = some y ∧ w.cell? ⟨b, 2, none⟩ = some z ∧ w.cell? ⟨b, 3, none⟩ = some u :=
  ⟨cell_of_row w b 0 _ _ (0, 0) h, cell_of_row w b 1 _ _ (0, 0) h, cell_of_row w b 2 _ _ (0, 0) h, cell_of_row w b 3 _ _ (0, 0) h⟩
theorem own_set {w : World} {B n m c : Nat} {e : TypeId} {v u : Value} {xs : List Value} (h : w.ownsRow B e m v n xs) {x : Value} {t : TypeId} (hr : w.heap[c]? = some (.cells #[x] t (0, 0))) (ht : t ≠ e) : (w.setCell ⟨c, 0, none⟩ u).ownsRow B e m v n xs := by
  refine ⟨h.1, ?_⟩
  rcases h.2 with h2 | ⟨g, cap, cur, hv, hB, hh, h3⟩
  · exact .inl h2
  · refine .inr ⟨g, cap, cur, hv, hB, ?_, h3⟩
    rw [Below.heap_setCell w ⟨c, 0, none⟩ u g ?_]
    · exact hh
    · intro eq
      have eq : g = c := eq
      subst eq
      rw [hr] at hh
      cases hh
      exact ht rfl
end Go.Proofs.Ytnlcknklghalkaa
