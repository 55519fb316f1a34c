/- Rows of strings: what the laws' own helpers do to them. -/
import Derived.Test.YtifiadkbepdehaaBase
import Derived.Test.YtifiadkbepdehaaPlainA
import Derived.Deep.RegionHeld3
import Derived.Deep.QuietTactic
import Derived.BigQuiet
import Derived.WalkSmall
namespace Go.Proofs.Ytifiadkbepdehaa
open Go.RowKit
open Plain
set_option linter.unusedVariables false

set_option maxHeartbeats 1000000 in
set_option maxRecDepth 100000 in
theorem markText_any (N : Nat) (w : World) (h0 : 1 ≤ N) (h1 : N ≤ 1000000000) :
    Calls Try.prog 78 #[.int .i64 N] w fun e w' => e = .returned (.string ⟨(mkL N).toArray⟩) ∧ Below w.heap.size w w' := by
  have d0 : decide ((N : Int) ≤ 0) = false := by simp; omega
  go_enter Try.func78, Try.ntmps78
  go_wp2
  go_loopw [0, 3] (fun n v wr => ∃ (m : Nat) (suf : List UInt8), n = .int .i64 m ∧ m ≤ 1000000000 ∧ v = .string ⟨suf.toArray⟩ ∧ DecInv N m suf ∧ Below w.heap.size w wr)
    (fun n _ _ => (intOf n).toNat)
  case atStart => exact ⟨N, [], rfl, h1, rfl, DecInv.start N, Below.refl _ _⟩
  case round =>
    obtain ⟨m, suf, rfl, hm, rfl, hinv, hbel⟩ := hrel
    have hsl := hinv.2
    have hsl' : (⟨suf.toArray⟩ : ByteArray).size ≤ 20 := hsl
    by_cases hz : m = 0
    · subst hz
      have hd := hide hinv.mark
      clear hinv
      go_wp2
      go_ret
      exact ⟨by rw [mkL, ← unhide hd]; exact congrArg (fun b => Ending.returned (Value.string b)) (ByteArray.mk_append_mk [109] suf), hbel⟩
    · have dz1 : 0 < m := by omega
      have hst := hinv.step (by omega) hz
      have hf := fig_10 m
      have hcv : ∀ W : World, (convert 118 9 (.slice (some ⟨W.heap.size, 0, none⟩) 1 1)).run Try.prog (W.alloc (.cells #[.int .u8 (48 + (m : Int) % 10)] 5)) = .ok (.string ⟨[fig (m % 10)].toArray⟩) (W.alloc (.cells #[.int .u8 (48 + (m : Int) % 10)] 5)) := fun W => by
        rw [← hf]; exact one_str W (fig (m % 10))
      have HZ := hide hz
      clear hinv hz hf
      go_wp2
      go_roundw
      case rel => exact ⟨m / 10, fig (m % 10) :: suf, by go_num, by omega, congrArg Value.string (ByteArray.mk_append_mk [fig (m % 10)] suf), hst, hbel.alloc hbel.size _⟩
      case measure => have := unhide HZ; simp [intOf]; omega

/-- The cells of a row of strings. -/
theorem grown_below {w w1 : World} (h : Below w.heap.size w w1) (row : Option Nat) : w.grownBy w1 row := ⟨h.os, h.tape, h.output, h.size, fun k hk _ => h.block k hk⟩
theorem own_below {w w1 : World} {B n : Nat} {e : TypeId} {size : Nat} {v : Value} {xs : List Value} (h : w.ownsRow B e size v n xs) (hb : Below w.heap.size w w1) : w1.ownsRow B e size v n xs :=
  h.kept (grown_below hb none) (Classical.em _)
theorem own_lower {w : World} {B B' n : Nat} {e : TypeId} {size : Nat} {v : Value} {xs : List Value} (h : w.ownsRow B e size v n xs) (hB : B' ≤ B) : w.ownsRow B' e size v n xs := by
  refine ⟨h.1, ?_⟩
  rcases h.2 with h2 | ⟨g, cap, cur, h1, h2, h3⟩
  · exact .inl h2
  · exact .inr ⟨g, cap, cur, h1, by omega, h3⟩
theorem str_cell {w : World} {B g n cap : Nat} {l : List (List UInt8)} (h : w.ownsRow B 9 1 (.slice (some ⟨g, 0, none⟩) n cap) n (strs l)) {k : Nat} {x : List UInt8} (hx : l[k]? = some x) (hk : k < n) :
    w.cell? ⟨g, k, none⟩ = some (.string ⟨x.toArray⟩) := by
  rw [h.cellAt k (by omega)]
  unfold strs
  rw [List.getElem?_map, hx]; rfl


end Go.Proofs.Ytifiadkbepdehaa
