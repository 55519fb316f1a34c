/- The draws of the laws, what all chapters share: one of a list of texts, a place, twelve places; an input that is too big. -/
import Derived.Test.YtgdihceikhkddaaDrawPick
import Derived.Test.YtgdihceikhkddaaRowsA
import Derived.Test.YtgdihceikhkddaaDrawPlaces
namespace Go.Proofs.Ytgdihceikhkddaa
open Go.RowKit
open Plain
set_option linter.unusedVariables false
set_option linter.unusedSimpArgs false

namespace Plain
end Plain
theorem bigF_any (len cap : Nat) (a : Option Addr) (w : World) (hl : len ≤ 9223372036854775807) :
  Calls Try.prog 4 #[.slice a len cap] w fun e w' => e = .returned (.bool (decide ((1048576 : Int) < len))) ∧ w' = w := by
 go_enter Try.func4, Try.ntmps4
 go_wp2
 go_ret
 exact ⟨rfl, rfl⟩
/-- Two places. -/
theorem placesF_any (B len cap : Nat) (a : Option Addr) (w : World) (ha : Arg B w a len) (hB : B ≤ w.heap.size) :
  Calls Try.prog 6 #[.slice a len cap] w fun e w' => ∃ g pc p0 p1 : Nat, p0 < 10000 ∧ p1 < 10000 ∧ e = .returned (.slice (some ⟨g, 0, none⟩) 12 pc) ∧ 
   w'.cell? ⟨g, 0, none⟩ = some (.int .i64 (p0 : Int)) ∧ w'.cell? ⟨g, 1, none⟩ = some (.int .i64 (p1 : Int)) ∧ Below w.heap.size w w' :=
 (DrawPlaces_any B len cap a w ha hB).mono fun e w' ⟨v, l, h1, h2, h3, h4, h5⟩ => by
  rcases h4.2 with ⟨rfl, h⟩ | ⟨g, pc, cur, rfl, hg, hh, hnc, hcp, hcs, htake⟩
  ·cases h
  ·match l, h1 with
   | p0 :: p1 :: r, h1 =>
    exact ⟨g, pc, p0, p1, h2 _ (by simp), h2 _ (by simp), h3, h4.cellAt 0 (by decide), h4.cellAt 1 (by decide), h5⟩
/-- The cursor under way. -/
structure FC (B c : Nat) (w W : World) : Prop where
 cur : Cur B W c
 below : Below w.heap.size w W
 lt : w.heap.size ≤ c
theorem FC.call {B c : Nat} {w W W' : World} (h : FC B c w W) (hg : W.grownBy W' (some c)) (hc : Cur B W' c) : FC B c w W' :=
 ⟨hc, h.below.grown hg h.below.size (fun k hk => by cases hk; exact h.lt), h.lt⟩

end Go.Proofs.Ytgdihceikhkddaa
