/- The specification's Vanished. Made by gen_vanished.py. -/
import Derived.Test.YtfemplekibpfoaaGreatBoxOkS
import Derived.Test.YtfemplekibpfoaaGreatSetA
namespace Go.Proofs.YtfemplekibpfoaaGreat
open Go.RowKit
open Plain
set_option linter.unusedVariables false
set_option linter.unusedSimpArgs false

namespace Plain
/-- The numbers of those that are gone since. -/
def goneStep (since : Int) (s : List Rg) (t : Tb) : List Rg := if since < t.mod then (putV s t.uid t.uid true).1 else s
def goneTo (b : Bx) (since : Int) (k : Nat) : List Rg := (b.tombs.take k).foldl (goneStep since) []
def goneL (b : Bx) (since : Int) : List Rg := b.tombs.foldl (goneStep since) []
def vanV (b : Bx) (since : Int) : List Rg × Bool := if boxOk b = true ∧ ¬ since < b.hor then (goneL b since, true) else ([], false)
theorem vanV_no1 {b : Bx} {since : Int} (h : boxOk b = false) : vanV b since = ([], false) := if_neg (fun x => by rw [h] at x; cases x.1)
theorem vanV_no2 {b : Bx} {since : Int} (h : since < b.hor) : vanV b since = ([], false) := if_neg (fun x => x.2 h)
theorem vanV_yes {b : Bx} {since : Int} (h1 : boxOk b = true) (h2 : ¬ since < b.hor) : vanV b since = (goneL b since, true) := if_pos ⟨h1, h2⟩
theorem gone_all (b : Bx) (since : Int) : goneTo b since b.tombs.length = goneL b since := by unfold goneTo goneL; rw [List.take_length]
theorem gone_next {b : Bx} {since : Int} {k : Nat} {t : Tb} (h : b.tombs[k]? = some t) : goneTo b since (k + 1) = goneStep since (goneTo b since k) t := by
  unfold goneTo
  rw [List.take_add_one, h, List.foldl_append]
  rfl
theorem put_small (s : List Rg) (lo hi : Int) (c : Bool) (h : s.length ≤ 40) : (putV s lo hi c).1.length ≤ 40 := by
  unfold putV
  split
  · split
    · assumption
    · exact h
  · exact h
theorem gone_len (b : Bx) (since : Int) : ∀ k, (goneTo b since k).length ≤ 40 := by
  intro k
  induction k with
  | zero => simp [goneTo]
  | succ k ih =>
    by_cases hk : k < b.tombs.length
    · rw [gone_next (List.getElem?_eq_getElem hk)]
      unfold goneStep
      split
      · exact put_small _ _ _ _ ih
      · exact ih
    · have : goneTo b since (k + 1) = goneTo b since k := by
        unfold goneTo
        rw [List.take_of_length_le (by omega), List.take_of_length_le (by omega)]
      rw [this]
      exact ih
end Plain
theorem below_v {w W W' : World} (h : Below w.heap.size w W) (hb : Below W.heap.size W W') : Below w.heap.size w W' := h.trans (hb.mono h.size)
end Go.Proofs.YtfemplekibpfoaaGreat
