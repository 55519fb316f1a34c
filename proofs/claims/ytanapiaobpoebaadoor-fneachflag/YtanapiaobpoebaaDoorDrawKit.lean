/- The draws of the laws, what all chapters share: one of a list of texts, a place, twelve places; an input that is too big. -/
import Derived.Test.YtanapiaobpoebaaDoorDrawPick
import Derived.Test.YtanapiaobpoebaaDoorRowsA
import Derived.Test.YtanapiaobpoebaaDoorDrawPlaces
namespace Go.Proofs.YtanapiaobpoebaaDoor
open Go.RowKit
open Plain
set_option linter.unusedVariables false
set_option linter.unusedSimpArgs false

namespace Plain
def i64R (z : Int) : Prop := -9223372036854775808 ≤ z ∧ z ≤ 9223372036854775807
theorem i64R_small {z : Int} (h0 : 0 ≤ z) (h1 : z ≤ 1000) : i64R z := ⟨by omega, by omega⟩
end Plain
theorem bigF_any (len cap : Nat) (a : Option Addr) (w : World) (hl : len ≤ 9223372036854775807) :
    Calls Tryd.prog 8 #[.slice a len cap] w fun e w' => e = .returned (.bool (decide ((1048576 : Int) < len))) ∧ w' = w := by
  go_enter Tryd.func8, Tryd.ntmps8
  go_wp2
  go_ret
  exact ⟨rfl, rfl⟩
/-- Two places. -/
theorem placesF_any (B len cap : Nat) (a : Option Addr) (w : World) (ha : Arg B w a len) (hB : B ≤ w.heap.size) :
    Calls Tryd.prog 9 #[.slice a len cap] w fun e w' => ∃ g pc p0 p1 : Nat, p0 < 10000 ∧ p1 < 10000 ∧ e = .returned (.slice (some ⟨g, 0, none⟩) 12 pc) ∧ 
      w'.cell? ⟨g, 0, none⟩ = some (.int .i64 (p0 : Int)) ∧ w'.cell? ⟨g, 1, none⟩ = some (.int .i64 (p1 : Int)) ∧ Below w.heap.size w w' :=
  (DrawPlaces_any B len cap a w ha hB).mono fun e w' ⟨v, l, h1, h2, h3, h4, h5⟩ => by
    rcases h4.2 with ⟨rfl, h⟩ | ⟨g, pc, cur, rfl, hg, hh, hnc, hcp, hcs, htake⟩
    · cases h
    · match l, h1 with
      | p0 :: p1 :: r, h1 =>
        exact ⟨g, pc, p0, p1, h2 _ (by simp), h2 _ (by simp), h3, h4.cellAt 0 (by decide), h4.cellAt 1 (by decide), h5⟩
/-- One of a list of texts, laid just now. -/
theorem flag_str (zs : List ByteArray) (B c : Nat) (w : World) (hc : Cur B w c) (h0 : 0 < zs.length) (h1 : zs.length ≤ 1000) :
    Calls Tryd.prog 32 #[.pointer (some ⟨c, 0, none⟩), .slice (some ⟨w.heap.size, 0, none⟩) zs.length zs.length] (w.alloc (.cells (zs.map Value.string).toArray 9)) fun e w' => ∃ z : ByteArray, z ∈ zs ∧ e = .returned (.string z) ∧ Cur B w' c ∧ w.grownBy w' (some c) := by
  have hcl := hc.lt.2
  have hc0 : Cur B (w.alloc (.cells (zs.map Value.string).toArray 9)) c := hc.kept (World.grownBy_alloc _ _ none) (fun k hk => by cases hk)
  have hg0 : w.grownBy (w.alloc (.cells (zs.map Value.string).toArray 9)) (some c) := World.grownBy_alloc _ _ _
  have q := hide (l01Below_any B c zs.length _ hc0 h0 (by omega))
  have HL : Hid (∀ x : Nat, x < zs.length → ∃ z, z ∈ zs ∧ (w.alloc (.cells (zs.map Value.string).toArray 9)).cell? ⟨w.heap.size, x, none⟩ = some (.string z)) := fun x hx => by
    refine ⟨zs[x], List.getElem_mem _, ?_⟩
    have := (World.ownsRow_lit (size := 1) (e := 9) w (zs.map Value.string).toArray zs.length (Nat.le_refl _) (by unfold maxLen; omega) (by simp)).cellAt x (by omega)
    rw [this]
    simp [hx]
  have hne : w.heap.size ≠ c := by omega
  have hgl : w.heap.size < (w.alloc (.cells (zs.map Value.string).toArray 9)).heap.size := by simp
  generalize w.alloc (.cells (zs.map Value.string).toArray 9) = W at *
  have HG := hide hg0
  clear hc hc0 hg0
  go_enter Tryd.func32, Tryd.ntmps32
  go_wp2_with fail
  refine (unhide q).mono ?_
  rintro e w1 ⟨x, hx, rfl, hc1, hg1⟩
  obtain ⟨z, hz, hz3⟩ := unhide HL x hx
  have hz4 : w1.cell? ⟨w.heap.size, x, none⟩ = some (.string z) := (World.cell?_of_block (w := W) (a := ⟨w.heap.size, x, none⟩) (hg1.block _ hgl (fun e => hne (by cases e; rfl)))).trans hz3
  have HH := hide (g_join (unhide HG) hg1)
  have HC := hide hc1
  clear hz3 hc1 hg1 HG HL
  go_wp2
  go_ret
  exact ⟨z, hz, rfl, unhide HC, unhide HH⟩

/-- The cursor under way. -/
structure FC (B c : Nat) (w W : World) : Prop where
  cur : Cur B W c
  below : Below w.heap.size w W
  lt : w.heap.size ≤ c
theorem FC.call {B c : Nat} {w W W' : World} (h : FC B c w W) (hg : W.grownBy W' (some c)) (hc : Cur B W' c) : FC B c w W' :=
  ⟨hc, h.below.grown hg h.below.size (fun k hk => by cases hk; exact h.lt), h.lt⟩

set_option maxHeartbeats 1000000 in
set_option maxRecDepth 100000 in
theorem placeF_any (B c n : Nat) (w : World) (hc : Cur B w c) (hn0 : 0 < n) (hn : n ≤ 1000) :
    Calls Tryd.prog 31 #[.pointer (some ⟨c, 0, none⟩), .int .i64 n] w fun e w' => ∃ z : Int, -9223372036854775808 ≤ z ∧ z ≤ 9223372036854775807 ∧ e = .returned (.int .i64 z) ∧ Cur B w' c ∧ w.grownBy w' (some c) := by
  have hlt := hc.lt
  have HC := hide hc
  clear hc
  go_enter Tryd.func31, Tryd.ntmps31
  go_wp2_with fail
  refine (l01Once_any B c 15 _ (unhide HC) (by omega) (by omega)).mono ?_
  rintro e w1 ⟨b, rfl, hc1, hg1⟩
  have hs1 := hg1.size
  have HC1 := hide hc1
  clear hc1
  have hb : b = true ∨ b = false := by cases b <;> simp
  rcases hb with rfl | rfl
  · go_wp2_with fail
    refine (l01PickInt_any B c w1.heap.size 5 5 _ ((unhide HC1).kept (World.grownBy_alloc _ _ none) (fun k hk => by cases hk)) (by omega) (by omega) (by omega) (by simp) (fun j hj => ?_)).mono ?_
    · match j, hj with
      | 0, _ => exact ⟨_, by omega, by omega, cell_of_row _ _ 0 _ _ (0, 0) (heap_alloc_new _ _)⟩
      | 1, _ => exact ⟨_, by omega, by omega, cell_of_row _ _ 1 _ _ (0, 0) (heap_alloc_new _ _)⟩
      | 2, _ => exact ⟨_, by omega, by omega, cell_of_row _ _ 2 _ _ (0, 0) (heap_alloc_new _ _)⟩
      | 3, _ => exact ⟨_, by omega, by omega, cell_of_row _ _ 3 _ _ (0, 0) (heap_alloc_new _ _)⟩
      | 4, _ => exact ⟨_, by omega, by omega, cell_of_row _ _ 4 _ _ (0, 0) (heap_alloc_new _ _)⟩
    · rintro e w2 ⟨z, hz1, hz2, rfl, hc2, hg2⟩
      go_wp2
      go_ret
      exact ⟨z, hz1, hz2, rfl, hc2, hg1.trans ((World.grownBy_alloc _ _ _).trans hg2)⟩
  · go_wp2_with fail
    refine (l01Below_any B c n _ (unhide HC1) hn0 (by omega)).mono ?_
    rintro e w2 ⟨x, hx, rfl, hc2, hg2⟩
    go_wp2
    go_ret
    exact ⟨_, by omega, by omega, rfl, hc2, hg1.trans hg2⟩

end Go.Proofs.YtanapiaobpoebaaDoor
