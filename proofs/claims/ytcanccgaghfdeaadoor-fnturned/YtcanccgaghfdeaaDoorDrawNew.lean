/- The draws of the laws: a new cursor; some text of less than 40 bytes; some twelve places. -/
import Derived.Test.YtcanccgaghfdeaaDoorDraw
namespace Go.Proofs.YtcanccgaghfdeaaDoor
open Go.RowKit
open Plain
set_option linter.unusedVariables false

theorem Cur.new {B len cap : Nat} {w : World} {a : Option Addr} (ha : Arg B w a len) (hB : B ≤ w.heap.size) (h : Int) : Cur B (w.alloc (.cells #[.slice a len cap, .int .i64 0, .int .i64 h] 45)) w.heap.size :=
  ⟨a, len, cap, 0, h, hB, Nat.zero_le _, ha.below ((Below.refl B w).alloc hB _), heap_alloc_new w _⟩

set_option maxHeartbeats 1000000 in
set_option maxRecDepth 100000 in
theorem l01New_any (B len cap : Nat) (a : Option Addr) (w : World) (ha : Arg B w a len) (hB : B ≤ w.heap.size) :
    Calls Tryd.prog 19 #[.slice a len cap] w fun e w' => e = .returned (.pointer (some ⟨w.heap.size, 0, none⟩)) ∧ Cur B w' w.heap.size ∧ w.grownBy w' none := by
  have HA := hide ha
  have hl := ha.1
  clear ha
  go_enter Tryd.func19, Tryd.ntmps19
  go_wp2
  go_loopw [3, 4] (fun h i wr => ∃ (k : Nat) (y : Int), k ≤ len ∧ i = .int .i64 (k : Int) ∧ h = .int .i64 y ∧ w = wr)
    (fun _ i _ => len - (intOf i).toNat)
  case atStart => exact ⟨0, _, Nat.zero_le _, rfl, rfl, rfl⟩
  case round =>
    obtain ⟨k, y, hk, rfl, rfl, rfl⟩ := hrel
    by_cases hlt : k < len
    · have d1 : decide ((k : Int) < (len : Int)) = true := by simp; omega
      by_cases h4 : k < 4000
      · have d2 : decide ((k : Int) < 4000) = true := by simp; omega
        obtain ⟨x, u, rfl, e2, e3, e4⟩ := (unhide HA).2 k hlt
        go_wp2
        go_roundw
        case rel => exact ⟨k + 1, _, by omega, by go_num, rfl, trivial⟩
        case measure => simp [intOf]; omega
      · have d2 : decide ((k : Int) < 4000) = false := by simp; omega
        go_wp2
        go_ret
        exact ⟨rfl, Cur.new (unhide HA) hB y, World.grownBy_alloc w _ none⟩
    · have d1 : decide ((k : Int) < (len : Int)) = false := by simp; omega
      go_wp2
      go_ret
      exact ⟨rfl, Cur.new (unhide HA) hB y, World.grownBy_alloc w _ none⟩

/-- Some text of less than 40 bytes. -/
theorem DrawSumOf_any (B len cap : Nat) (a : Option Addr) (w : World) (ha : Arg B w a len) (hB : B ≤ w.heap.size) :
    Calls Tryd.prog 9 #[.slice a len cap] w fun e w' => ∃ l : List UInt8, l.length < 40 ∧ e = .returned (.string ⟨l.toArray⟩) ∧ Below w.heap.size w w' := by
  have q1 := hide (l01New_any B len cap a w ha hB)
  have q2 := hide (fun W hW => l01Below_any B w.heap.size 40 W hW (by omega) (by omega))
  have q3 := hide (fun W (x : Nat) hx hW => l01Text_any B w.heap.size x W hW hx)
  clear ha
  go_enter Tryd.func9, Tryd.ntmps9
  go_wp2_with (first
    | (go_at_call 19; refine (unhide q1).mono ?_; rintro e w1 ⟨rfl, hc1, hg1⟩)
    | (go_at_call 21; refine (unhide q2 _ (by assumption)).mono ?_; rintro e w2 ⟨x, hx, rfl, hc2, hg2⟩)
    | (go_at_call 20; refine (unhide q3 _ x (by omega) (by assumption)).mono ?_; rintro e w3 ⟨l, hl3, rfl, hc3, hg3⟩))
  go_ret
  exact ⟨l, by omega, rfl, (((Below.refl _ _).grown hg1 (Nat.le_refl _) (fun k hk => by cases hk)).grown hg2 hg1.size (fun k hk => by cases hk; exact Nat.le_refl _)).grown hg3 (Nat.le_trans hg1.size hg2.size) (fun k hk => by cases hk; exact Nat.le_refl _)⟩
end Go.Proofs.YtcanccgaghfdeaaDoor
