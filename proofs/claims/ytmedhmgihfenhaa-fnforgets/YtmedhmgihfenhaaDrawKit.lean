/- The draws of the laws, what all chapters share: one of a list of texts, a place, twelve places; an input that is too big. -/
import Derived.Test.YtmedhmgihfenhaaDrawPick
import Derived.Test.YtmedhmgihfenhaaRowsA
import Derived.Test.YtmedhmgihfenhaaDrawPlaces
namespace Go.Proofs.Ytmedhmgihfenhaa
open Go.RowKit
open Plain
set_option linter.unusedVariables false
set_option linter.unusedSimpArgs false

namespace Plain
def i64R (z : Int) : Prop := -9223372036854775808 ≤ z ∧ z ≤ 9223372036854775807
theorem i64R_small {z : Int} (h0 : 0 ≤ z) (h1 : z ≤ 1000) : i64R z := ⟨by omega, by omega⟩
end Plain
theorem bigF_any (len cap : Nat) (a : Option Addr) (w : World) (hl : len ≤ 9223372036854775807) :
    Calls Try.prog 6 #[.slice a len cap] w fun e w' => e = .returned (.bool (decide ((1048576 : Int) < len))) ∧ w' = w := by
  go_enter Try.func6, Try.ntmps6
  go_wp2
  go_ret
  exact ⟨rfl, rfl⟩
/-- Two places. -/
theorem placesF_any (B len cap : Nat) (a : Option Addr) (w : World) (ha : Arg B w a len) (hB : B ≤ w.heap.size) :
    Calls Try.prog 24 #[.slice a len cap] w fun e w' => ∃ g pc p0 p1 : Nat, p0 < 10000 ∧ p1 < 10000 ∧ e = .returned (.slice (some ⟨g, 0, none⟩) 12 pc) ∧ 
      w'.cell? ⟨g, 0, none⟩ = some (.int .i64 (p0 : Int)) ∧ w'.cell? ⟨g, 1, none⟩ = some (.int .i64 (p1 : Int)) ∧ Below w.heap.size w w' :=
  (DrawPlaces_any B len cap a w ha hB).mono fun e w' ⟨v, l, h1, h2, h3, h4, h5⟩ => by
    rcases h4.2 with ⟨rfl, h⟩ | ⟨g, pc, cur, rfl, hg, hh, hnc, hcp, hcs, htake⟩
    · cases h
    · match l, h1 with
      | p0 :: p1 :: r, h1 =>
        exact ⟨g, pc, p0, p1, h2 _ (by simp), h2 _ (by simp), h3, h4.cellAt 0 (by decide), h4.cellAt 1 (by decide), h5⟩
/-- One of a list of texts, laid just now. -/
theorem flag_str (zs : List ByteArray) (B c : Nat) (w : World) (hc : Cur B w c) (h0 : 0 < zs.length) (h1 : zs.length ≤ 1000) :
    Calls Try.prog 48 #[.pointer (some ⟨c, 0, none⟩), .slice (some ⟨w.heap.size, 0, none⟩) zs.length zs.length] (w.alloc (.cells (zs.map Value.string).toArray 9)) fun e w' => ∃ z : ByteArray, z ∈ zs ∧ e = .returned (.string z) ∧ Cur B w' c ∧ w.grownBy w' (some c) := by
  have hcl := hc.lt.2
  have hc0 : Cur B (w.alloc (.cells (zs.map Value.string).toArray 9)) c := hc.kept (World.grownBy_alloc _ _ none) (fun k hk => by cases hk)
  have hg0 : w.grownBy (w.alloc (.cells (zs.map Value.string).toArray 9)) (some c) := World.grownBy_alloc _ _ _
  have q := hide (l01Below_any B c zs.length _ hc0 h0 (by omega))
  have HL : Hid (∀ x : Nat, x < zs.length → ∃ z, z ∈ zs ∧ (w.alloc (.cells (zs.map Value.string).toArray 9)).cell? ⟨w.heap.size, x, none⟩ = some (.string z)) := fun x hx => by
    refine ⟨zs[x], List.getElem_mem _, ?_⟩
    have := (World.ownsRow_lit (size := 1) (e := 9) w (zs.map Value.string).toArray zs.length (Nat.le_refl _) (by unfold maxLen; omega) (by simp)).cellAt x (by omega)
    rw [this]
    simp [hx]
  have hne : w.heap.size ≠ c := by omega
  have hgl : w.heap.size < (w.alloc (.cells (zs.map Value.string).toArray 9)).heap.size := by simp
  generalize w.alloc (.cells (zs.map Value.string).toArray 9) = W at *
  have HG := hide hg0
  clear hc hc0 hg0
  go_enter Try.func48, Try.ntmps48
  go_wp2_with fail
  refine (unhide q).mono ?_
  rintro e w1 ⟨x, hx, rfl, hc1, hg1⟩
  obtain ⟨z, hz, hz3⟩ := unhide HL x hx
  have hz4 : w1.cell? ⟨w.heap.size, x, none⟩ = some (.string z) := (World.cell?_of_block (w := W) (a := ⟨w.heap.size, x, none⟩) (hg1.block _ hgl (fun e => hne (by cases e; rfl)))).trans hz3
  have HH := hide (g_join (unhide HG) hg1)
  have HC := hide hc1
  clear hz3 hc1 hg1 HG HL
  go_wp2
  go_ret
  exact ⟨z, hz, rfl, unhide HC, unhide HH⟩

/-- The cursor under way. -/
structure FC (B c : Nat) (w W : World) : Prop where
  cur : Cur B W c
  below : Below w.heap.size w W
  lt : w.heap.size ≤ c
theorem FC.call {B c : Nat} {w W W' : World} (h : FC B c w W) (hg : W.grownBy W' (some c)) (hc : Cur B W' c) : FC B c w W' :=
  ⟨hc, h.below.grown hg h.below.size (fun k hk => by cases hk; exact h.lt), h.lt⟩

end Go.Proofs.Ytmedhmgihfenhaa
