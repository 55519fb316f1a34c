/- The draws of the laws: a new cursor; some text of less than 40 bytes; some twelve places. -/
import Derived.Test.YtjaohlnejkgkaaaGreatDoorDraw
namespace Go.Proofs.YtjaohlnejkgkaaaGreatDoor
open Go.RowKit
open Plain
set_option linter.unusedVariables false

theorem Cur.new {B len cap : Nat} {w : World} {a : Option Addr} (ha : Arg B w a len) (hB : B ≤ w.heap.size) (h : Int) : Cur B (w.alloc (.cells #[.slice a len cap, .int .i64 0, .int .i64 h] 49)) w.heap.size :=
  ⟨a, len, cap, 0, h, hB, Nat.zero_le _, ha.below ((Below.refl B w).alloc hB _), heap_alloc_new w _⟩

set_option maxHeartbeats 1000000 in
set_option maxRecDepth 100000 in
theorem l01New_any (B len cap : Nat) (a : Option Addr) (w : World) (ha : Arg B w a len) (hB : B ≤ w.heap.size) :
    Calls Tryz.prog 12 #[.slice a len cap] w fun e w' => e = .returned (.pointer (some ⟨w.heap.size, 0, none⟩)) ∧ Cur B w' w.heap.size ∧ w.grownBy w' none := by
  have HA := hide ha
  have hl := ha.1
  clear ha
  go_enter Tryz.func12, Tryz.ntmps12
  go_wp2
  go_loopw [3, 4] (fun h i wr => ∃ (k : Nat) (y : Int), k ≤ len ∧ i = .int .i64 (k : Int) ∧ h = .int .i64 y ∧ w = wr)
    (fun _ i _ => len - (intOf i).toNat)
  case atStart => exact ⟨0, _, Nat.zero_le _, rfl, rfl, rfl⟩
  case round =>
    obtain ⟨k, y, hk, rfl, rfl, rfl⟩ := hrel
    by_cases hlt : k < len
    · have d1 : decide ((k : Int) < (len : Int)) = true := by simp; omega
      by_cases h4 : k < 4000
      · have d2 : decide ((k : Int) < 4000) = true := by simp; omega
        obtain ⟨x, u, rfl, e2, e3, e4⟩ := (unhide HA).2 k hlt
        go_wp2
        go_roundw
        case rel => exact ⟨k + 1, _, by omega, by go_num, rfl, trivial⟩
        case measure => simp [intOf]; omega
      · have d2 : decide ((k : Int) < 4000) = false := by simp; omega
        go_wp2
        go_ret
        exact ⟨rfl, Cur.new (unhide HA) hB y, World.grownBy_alloc w _ none⟩
    · have d1 : decide ((k : Int) < (len : Int)) = false := by simp; omega
      go_wp2
      go_ret
      exact ⟨rfl, Cur.new (unhide HA) hB y, World.grownBy_alloc w _ none⟩

end Go.Proofs.YtjaohlnejkgkaaaGreatDoor
