/- Rows of strings: what the laws' own helpers do to them. -/
import Derived.Test.YtjaohlnejkgkaaaDoorBase
import Derived.Test.YtjaohlnejkgkaaaDoorPlainA
import Derived.Deep.RegionHeld3
import Derived.Deep.QuietTactic
import Derived.BigQuiet
import Derived.WalkSmall
namespace Go.Proofs.YtjaohlnejkgkaaaDoor
open Go.RowKit
open Plain
set_option linter.unusedVariables false

/-- The cells of a row of strings. -/
theorem grown_below {w w1 : World} (h : Below w.heap.size w w1) (row : Option Nat) : w.grownBy w1 row := ⟨h.os, h.tape, h.output, h.size, fun k hk _ => h.block k hk⟩
theorem own_below {w w1 : World} {B n : Nat} {e : TypeId} {size : Nat} {v : Value} {xs : List Value} (h : w.ownsRow B e size v n xs) (hb : Below w.heap.size w w1) : w1.ownsRow B e size v n xs :=
  h.kept (grown_below hb none) (Classical.em _)
theorem own_lower {w : World} {B B' n : Nat} {e : TypeId} {size : Nat} {v : Value} {xs : List Value} (h : w.ownsRow B e size v n xs) (hB : B' ≤ B) : w.ownsRow B' e size v n xs := by
  refine ⟨h.1, ?_⟩
  rcases h.2 with h2 | ⟨g, cap, cur, h1, h2, h3⟩
  · exact .inl h2
  · exact .inr ⟨g, cap, cur, h1, by omega, h3⟩
theorem str_cell {w : World} {B g n cap : Nat} {l : List (List UInt8)} (h : w.ownsRow B 9 1 (.slice (some ⟨g, 0, none⟩) n cap) n (strs l)) {k : Nat} {x : List UInt8} (hx : l[k]? = some x) (hk : k < n) :
    w.cell? ⟨g, k, none⟩ = some (.string ⟨x.toArray⟩) := by
  rw [h.cellAt k (by omega)]
  unfold strs
  rw [List.getElem?_map, hx]; rfl


set_option maxHeartbeats 1000000 in
set_option maxRecDepth 100000 in
theorem eqStringS_same (l : List (List UInt8)) (v1 v2 : Value) (B1 B2 n : Nat) (w : World) (hn : n = l.length) (hs : n ≤ 1048576)
    (h1 : w.ownsRow B1 9 1 v1 n (strs l)) (h2 : w.ownsRow B2 9 1 v2 n (strs l)) :
    Calls Tryd.prog 10 #[v1, v2] w fun e w' => e = .returned (.bool true) ∧ ∃ q, w' = w.drewN q := by
  subst hn
  rcases h1.2 with ⟨rfl, h10⟩ | ⟨g1, c1, cur1, rfl, hb1, hh1, _⟩
  · rcases h2.2 with ⟨rfl, _⟩ | ⟨g2, c2, cur2, rfl, hb2, hh2, _⟩
    · clear h1 h2
      go_enter Tryd.func10, Tryd.ntmps10
      go_wp2
      refine wp_loop_rounds 1 ?_
      rw [rounds_succ]
      go_wp2
      go_ret
      exact ⟨rfl, 0, rfl⟩
    · have hz : l.length = 0 := h10
      clear h1 h2
      rw [hz]
      go_enter Tryd.func10, Tryd.ntmps10
      go_wp2
      refine wp_loop_rounds 1 ?_
      rw [rounds_succ]
      go_wp2
      go_ret
      exact ⟨rfl, 0, rfl⟩
  · rcases h2.2 with ⟨rfl, h20⟩ | ⟨g2, c2, cur2, rfl, hb2, hh2, _⟩
    · have hz : l.length = 0 := h20
      clear h1 h2 hh1
      rw [hz]
      go_enter Tryd.func10, Tryd.ntmps10
      go_wp2
      refine wp_loop_rounds 1 ?_
      rw [rounds_succ]
      go_wp2
      go_ret
      exact ⟨rfl, 0, rfl⟩
    · have c1' := fun (k : Nat) (x : List UInt8) (hx : l[k]? = some x) (hk : k < l.length) => str_cell h1 hx hk
      have c2' := fun (k : Nat) (x : List UInt8) (hx : l[k]? = some x) (hk : k < l.length) => str_cell h2 hx hk
      have C1 := hide c1'
      have C2 := hide c2'
      clear h1 h2 hh1 hh2 c1' c2'
      go_enter Tryd.func10, Tryd.ntmps10
      go_wp2
      go_loopw [5] (fun i wr => ∃ k q : Nat, k ≤ l.length ∧ i = .int .i64 k ∧ wr = w.drewN q) (fun i _ => l.length - (intOf i).toNat)
      case atStart => exact ⟨0, 0, Nat.zero_le _, rfl, rfl⟩
      case round =>
        obtain ⟨k, q, hk, rfl, rfl⟩ := hrel
        by_cases hlt : k < l.length
        · have e1 := unhide C1 k l[k] (List.getElem?_eq_getElem hlt) hlt
          have e2 := unhide C2 k l[k] (List.getElem?_eq_getElem hlt) hlt
          generalize l[k] = x at e1 e2
          go_wp2
          go_quiet (fail)
          go_wp2
          go_roundw
          case rel => exact ⟨k + 1, _, by omega, by go_num, rfl⟩
          case measure => simp [intOf]; omega
        · go_wp2
          go_ret
          exact ⟨rfl, q, rfl⟩

/- Marks are written into a row of one's own. -/
end Go.Proofs.YtjaohlnejkgkaaaDoor
