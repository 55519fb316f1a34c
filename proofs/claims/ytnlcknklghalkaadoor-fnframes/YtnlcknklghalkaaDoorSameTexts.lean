/- Rows of texts that are the same, and a row's beginning. -/
import Derived.Test.YtnlcknklghalkaaDoorMarks
namespace Go.Proofs.YtnlcknklghalkaaDoor
open Go.RowKit
open Plain
set_option linter.unusedVariables false

theorem own_take {w : World} {B g n cap m : Nat} {e : TypeId} {xs : List Value} (h : w.ownsRow B e 1 (.slice (some ⟨g, 0, none⟩) n cap) n xs) (hm : m ≤ n) : w.ownsRow B e 1 (.slice (some ⟨g, 0, none⟩) m cap) m (xs.take m) := by
  refine ⟨by rw [List.length_take, h.1]; omega, ?_⟩
  rcases h.2 with ⟨h2, _⟩ | ⟨g', cap', cur, h1, h2, h3, h4, h5, h6, h7⟩
  · cases h2
  · cases h1
    refine .inr ⟨g, cap, cur, rfl, h2, h3, by omega, h5, h6, ?_⟩
    rw [← h7, List.take_take]
    congr 1
    omega

set_option maxHeartbeats 1000000 in
set_option maxRecDepth 100000 in
theorem sameTexts_same (l : List (List UInt8)) (v1 v2 : Value) (B1 B2 n : Nat) (w : World) (hn : n = l.length) (hs : n ≤ 1048576)
    (h1 : w.ownsRow B1 9 1 v1 n (strs l)) (h2 : w.ownsRow B2 9 1 v2 n (strs l)) :
    Calls Tryd.prog 11 #[v1, v2] w fun e w' => e = .returned (.bool true) ∧ ∃ q, w' = w.drewN q := by
  subst hn
  rcases h1.2 with ⟨rfl, h10⟩ | ⟨g1, c1, cur1, rfl, hb1, hh1, _⟩
  · rcases h2.2 with ⟨rfl, _⟩ | ⟨g2, c2, cur2, rfl, hb2, hh2, _⟩
    · clear h1 h2
      go_enter Tryd.func11, Tryd.ntmps11
      go_wp2
      refine wp_loop_rounds 1 ?_
      rw [rounds_succ]
      go_wp2
      go_ret
      exact ⟨rfl, 0, rfl⟩
    · have hz : l.length = 0 := h10
      clear h1 h2
      rw [hz]
      go_enter Tryd.func11, Tryd.ntmps11
      go_wp2
      refine wp_loop_rounds 1 ?_
      rw [rounds_succ]
      go_wp2
      go_ret
      exact ⟨rfl, 0, rfl⟩
  · rcases h2.2 with ⟨rfl, h20⟩ | ⟨g2, c2, cur2, rfl, hb2, hh2, _⟩
    · have hz : l.length = 0 := h20
      clear h1 h2 hh1
      rw [hz]
      go_enter Tryd.func11, Tryd.ntmps11
      go_wp2
      refine wp_loop_rounds 1 ?_
      rw [rounds_succ]
      go_wp2
      go_ret
      exact ⟨rfl, 0, rfl⟩
    · have c1' := fun (k : Nat) (x : List UInt8) (hx : l[k]? = some x) (hk : k < l.length) => str_cell h1 hx hk
      have c2' := fun (k : Nat) (x : List UInt8) (hx : l[k]? = some x) (hk : k < l.length) => str_cell h2 hx hk
      have C1 := hide c1'
      have C2 := hide c2'
      clear h1 h2 hh1 hh2 c1' c2'
      go_enter Tryd.func11, Tryd.ntmps11
      go_wp2
      go_loopw [5] (fun i wr => ∃ k q : Nat, k ≤ l.length ∧ i = .int .i64 k ∧ wr = w.drewN q) (fun i _ => l.length - (intOf i).toNat)
      case atStart => exact ⟨0, 0, Nat.zero_le _, rfl, rfl⟩
      case round =>
        obtain ⟨k, q, hk, rfl, rfl⟩ := hrel
        by_cases hlt : k < l.length
        · have e1 := unhide C1 k l[k] (List.getElem?_eq_getElem hlt) hlt
          have e2 := unhide C2 k l[k] (List.getElem?_eq_getElem hlt) hlt
          generalize l[k] = x at e1 e2
          go_wp2
          go_quiet (fail)
          go_wp2
          go_roundw
          case rel => exact ⟨k + 1, _, by omega, by go_num, rfl⟩
          case measure => simp [intOf]; omega
        · go_wp2
          go_ret
          exact ⟨rfl, q, rfl⟩
end Go.Proofs.YtnlcknklghalkaaDoor
