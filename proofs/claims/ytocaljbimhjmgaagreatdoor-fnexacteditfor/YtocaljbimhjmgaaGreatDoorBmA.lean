/- Several texts in one. -/
import Derived.Test.YtocaljbimhjmgaaGreatDoorProg
import Derived.Test.YtocaljbimhjmgaaGreatDoorPlainA
import Derived.WalkKit
import Derived.WalkSpells
import Derived.ProofKit
import Derived.Handy
import Derived.Laws.IdiomStrings
import Derived.Deep.RegionHeld3
import Derived.Deep.QuietTactic
import Derived.BigQuiet
import Derived.WalkSmall
namespace Go.Proofs.YtocaljbimhjmgaaGreatDoor
open Go.RowKit
open Plain
set_option linter.unusedVariables false

/-- A slice of one byte that was laid just now, as a string. -/
theorem one_str (W : World) (b : UInt8) : (convert 89 9 (.slice (some ⟨W.heap.size, 0, none⟩) 1 1)).run Tryz.prog (W.alloc (.cells #[.int .u8 (b.toNat : Int)] 5)) = .ok (.string ⟨[b].toArray⟩) (W.alloc (.cells #[.int .u8 (b.toNat : Int)] 5)) := by
  refine run_convert_bytes_back (P := Tryz.prog) _ 89 9 5 ⟨W.heap.size, 0, none⟩ 1 [b] Tryz.underlying89 Tryz.underlying5 Tryz.underlying9 ?_
  intro j hj
  have : j = 0 := by simp at hj; omega
  subst this
  simp [Addr.add]
end Go.Proofs.YtocaljbimhjmgaaGreatDoor

namespace Go.Proofs.YtocaljbimhjmgaaGreatDoor
open Go.RowKit
open Plain
set_option linter.unusedVariables false

set_option maxHeartbeats 1000000 in
set_option maxRecDepth 100000 in
theorem markText_any (N : Nat) (w : World) (h0 : 1 ≤ N) (h1 : N ≤ 1000000000) :
    Calls Tryz.prog 30 #[.int .i64 N] w fun e w' => e = .returned (.string ⟨(mkL N).toArray⟩) ∧ Below w.heap.size w w' := by
  have d0 : decide ((N : Int) ≤ 0) = false := by simp; omega
  go_enter Tryz.func30, Tryz.ntmps30
  go_wp2
  go_loopw [0, 3] (fun n v wr => ∃ (m : Nat) (suf : List UInt8), n = .int .i64 m ∧ m ≤ 1000000000 ∧ v = .string ⟨suf.toArray⟩ ∧ DecInv N m suf ∧ Below w.heap.size w wr)
    (fun n _ _ => (intOf n).toNat)
  case atStart => exact ⟨N, [], rfl, h1, rfl, DecInv.start N, Below.refl _ _⟩
  case round =>
    obtain ⟨m, suf, rfl, hm, rfl, hinv, hbel⟩ := hrel
    have hsl := hinv.2
    have hsl' : (⟨suf.toArray⟩ : ByteArray).size ≤ 20 := hsl
    by_cases hz : m = 0
    · subst hz
      have hd := hide hinv.mark
      clear hinv
      go_wp2
      go_ret
      exact ⟨by rw [mkL, ← unhide hd]; exact congrArg (fun b => Ending.returned (Value.string b)) (ByteArray.mk_append_mk [109] suf), hbel⟩
    · have dz1 : 0 < m := by omega
      have hst := hinv.step (by omega) hz
      have hf := fig_10 m
      have hcv : ∀ W : World, (convert 89 9 (.slice (some ⟨W.heap.size, 0, none⟩) 1 1)).run Tryz.prog (W.alloc (.cells #[.int .u8 (48 + (m : Int) % 10)] 5)) = .ok (.string ⟨[fig (m % 10)].toArray⟩) (W.alloc (.cells #[.int .u8 (48 + (m : Int) % 10)] 5)) := fun W => by
        rw [← hf]; exact one_str W (fig (m % 10))
      have HZ := hide hz
      clear hinv hz hf
      go_wp2
      go_roundw
      case rel => exact ⟨m / 10, fig (m % 10) :: suf, by go_num, by omega, congrArg Value.string (ByteArray.mk_append_mk [fig (m % 10)] suf), hst, hbel.alloc hbel.size _⟩
      case measure => have := unhide HZ; simp [intOf]; omega

/-- The cells of a row of strings. -/
theorem grown_below {w w1 : World} (h : Below w.heap.size w w1) (row : Option Nat) : w.grownBy w1 row := ⟨h.os, h.tape, h.output, h.size, fun k hk _ => h.block k hk⟩
theorem own_below {w w1 : World} {B n : Nat} {e : TypeId} {size : Nat} {v : Value} {xs : List Value} (h : w.ownsRow B e size v n xs) (hb : Below w.heap.size w w1) : w1.ownsRow B e size v n xs :=
  h.kept (grown_below hb none) (Classical.em _)
theorem str_cell {w : World} {B g n cap : Nat} {l : List (List UInt8)} (h : w.ownsRow B 9 1 (.slice (some ⟨g, 0, none⟩) n cap) n (strs l)) {k : Nat} {x : List UInt8} (hx : l[k]? = some x) (hk : k < n) :
    w.cell? ⟨g, k, none⟩ = some (.string ⟨x.toArray⟩) := by
  rw [h.cellAt k (by omega)]
  unfold strs
  rw [List.getElem?_map, hx]; rfl


set_option maxHeartbeats 1000000 in
set_option maxRecDepth 100000 in
theorem eqStringS_same (l : List (List UInt8)) (v1 v2 : Value) (B1 B2 n : Nat) (w : World) (hn : n = l.length) (hs : n ≤ 1048576)
    (h1 : w.ownsRow B1 9 1 v1 n (strs l)) (h2 : w.ownsRow B2 9 1 v2 n (strs l)) :
    Calls Tryz.prog 12 #[v1, v2] w fun e w' => e = .returned (.bool true) ∧ ∃ q, w' = w.drewN q := by
  subst hn
  rcases h1.2 with ⟨rfl, h10⟩ | ⟨g1, c1, cur1, rfl, hb1, hh1, _⟩
  · rcases h2.2 with ⟨rfl, _⟩ | ⟨g2, c2, cur2, rfl, hb2, hh2, _⟩
    · clear h1 h2
      go_enter Tryz.func12, Tryz.ntmps12
      go_wp2
      refine wp_loop_rounds 1 ?_
      rw [rounds_succ]
      go_wp2
      go_ret
      exact ⟨rfl, 0, rfl⟩
    · have hz : l.length = 0 := h10
      clear h1 h2
      rw [hz]
      go_enter Tryz.func12, Tryz.ntmps12
      go_wp2
      refine wp_loop_rounds 1 ?_
      rw [rounds_succ]
      go_wp2
      go_ret
      exact ⟨rfl, 0, rfl⟩
  · rcases h2.2 with ⟨rfl, h20⟩ | ⟨g2, c2, cur2, rfl, hb2, hh2, _⟩
    · have hz : l.length = 0 := h20
      clear h1 h2 hh1
      rw [hz]
      go_enter Tryz.func12, Tryz.ntmps12
      go_wp2
      refine wp_loop_rounds 1 ?_
      rw [rounds_succ]
      go_wp2
      go_ret
      exact ⟨rfl, 0, rfl⟩
    · have c1' := fun (k : Nat) (x : List UInt8) (hx : l[k]? = some x) (hk : k < l.length) => str_cell h1 hx hk
      have c2' := fun (k : Nat) (x : List UInt8) (hx : l[k]? = some x) (hk : k < l.length) => str_cell h2 hx hk
      have C1 := hide c1'
      have C2 := hide c2'
      clear h1 h2 hh1 hh2 c1' c2'
      go_enter Tryz.func12, Tryz.ntmps12
      go_wp2
      go_loopw [5] (fun i wr => ∃ k q : Nat, k ≤ l.length ∧ i = .int .i64 k ∧ wr = w.drewN q) (fun i _ => l.length - (intOf i).toNat)
      case atStart => exact ⟨0, 0, Nat.zero_le _, rfl, rfl⟩
      case round =>
        obtain ⟨k, q, hk, rfl, rfl⟩ := hrel
        by_cases hlt : k < l.length
        · have e1 := unhide C1 k l[k] (List.getElem?_eq_getElem hlt) hlt
          have e2 := unhide C2 k l[k] (List.getElem?_eq_getElem hlt) hlt
          generalize l[k] = x at e1 e2
          go_wp2
          go_quiet (fail)
          go_wp2
          go_roundw
          case rel => exact ⟨k + 1, _, by omega, by go_num, rfl⟩
          case measure => simp [intOf]; omega
        · go_wp2
          go_ret
          exact ⟨rfl, q, rfl⟩

/- Marks are written into a row of one's own. -/
/- Marks that stand in a row are found there. -/
end Go.Proofs.YtocaljbimhjmgaaGreatDoor
