/- The draws of the laws: a name, a right disk. -/
import Derived.Test.YtipmbfjcgmchkaaDrawNew
import Derived.Test.YtipmbfjcgmchkaaPut
import Derived.Test.YtipmbfjcgmchkaaLedger2
namespace Go.Proofs.Ytipmbfjcgmchkaa
open Go.RowKit
open Plain
set_option linter.unusedVariables false
set_option linter.unusedSimpArgs false

set_option maxHeartbeats 1000000 in
theorem l01Pick_any (p : ByteArray → Prop) (B c g m cp : Nat) (w : World) (hc : Cur B w c) (hm : 0 < m) (hm2 : m ≤ 1000) (hne : g ≠ c) (hg : g < w.heap.size)
    (hl : ∀ j, j < m → ∃ z : ByteArray, p z ∧ w.cell? ⟨g, j, none⟩ = some (.string z)) :
    Calls Try.prog 68 #[.pointer (some ⟨c, 0, none⟩), .slice (some ⟨g, 0, none⟩) m cp] w fun e w' => ∃ z : ByteArray, p z ∧ e = .returned (.string z) ∧ Cur B w' c ∧ w.grownBy w' (some c) := by
  have q := hide (l01Below_any B c m w hc hm (by omega))
  have HL := hide hl
  clear hl hc
  go_enter Try.func68, Try.ntmps68
  go_wp2_with (go_at_call 40; refine (unhide q).mono ?_; rintro e w1 ⟨x, hx, rfl, hc1, hg1⟩; obtain ⟨z, hz1, hz3⟩ := unhide HL x hx; have hz4 : w1.cell? ⟨g, x, none⟩ = some (.string z) := (World.cell?_of_block (w := w) (a := ⟨g, x, none⟩) (hg1.block g hg (fun e => hne (by cases e; rfl)))).trans hz3)
  go_ret
  exact ⟨z, hz1, rfl, hc1, hg1⟩

set_option maxHeartbeats 1000000 in
set_option maxRecDepth 100000 in
theorem l03Named_any (B c : Nat) (w : World) (hc : Cur B w c) :
    Calls Try.prog 43 #[.pointer (some ⟨c, 0, none⟩)] w fun e w' => ∃ z : ByteArray, nameB z = true ∧ e = .returned (.string z) ∧ Cur B w' c ∧ w.grownBy w' (some c) := by
  have hlt := hc.lt
  have HC := hide hc
  clear hc
  go_enter Try.func43, Try.ntmps43
  go_wp2_with fail
  refine (l01Pick_any (fun z => nameB z = true) B c w.heap.size 8 8 _ ((unhide HC).kept (World.grownBy_alloc _ _ none) (fun k hk => by cases hk)) (by omega) (by omega) (by omega) (by simp) (fun j hj => ?_)).mono ?_
  · match j, hj with
    | 0, _ => exact ⟨_, by decide, cell_of_row _ _ 0 _ _ (0, 0) (heap_alloc_new _ _)⟩
    | 1, _ => exact ⟨_, by decide, cell_of_row _ _ 1 _ _ (0, 0) (heap_alloc_new _ _)⟩
    | 2, _ => exact ⟨_, by decide, cell_of_row _ _ 2 _ _ (0, 0) (heap_alloc_new _ _)⟩
    | 3, _ => exact ⟨_, by decide, cell_of_row _ _ 3 _ _ (0, 0) (heap_alloc_new _ _)⟩
    | 4, _ => exact ⟨_, by decide, cell_of_row _ _ 4 _ _ (0, 0) (heap_alloc_new _ _)⟩
    | 5, _ => exact ⟨_, by decide, cell_of_row _ _ 5 _ _ (0, 0) (heap_alloc_new _ _)⟩
    | 6, _ => exact ⟨_, by decide, cell_of_row _ _ 6 _ _ (0, 0) (heap_alloc_new _ _)⟩
    | 7, _ => exact ⟨_, by decide, cell_of_row _ _ 7 _ _ (0, 0) (heap_alloc_new _ _)⟩
  · rintro e w1 ⟨z, hz, rfl, hc1, hg1⟩
    go_wp2
    go_ret
    exact ⟨z, hz, rfl, hc1, (World.grownBy_alloc _ _ _).trans hg1⟩
end Go.Proofs.Ytipmbfjcgmchkaa
