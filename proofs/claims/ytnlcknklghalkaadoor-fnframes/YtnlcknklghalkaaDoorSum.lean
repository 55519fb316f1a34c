/- Sums of 32 bits: what both SumMore and SumOf answer. -/
import Derived.Test.YtnlcknklghalkaaDoorProg
import Derived.Test.YtnlcknklghalkaaDoorPlain
import Derived.Test.YtnlcknklghalkaaDoorSumPlain
import Derived.WalkKit
import Derived.WalkSpells
import Derived.ProofKit
import Derived.Handy
import Derived.Laws.IdiomStrings
import Derived.Laws.BitsAll
import Derived.Below
import Derived.WalkSmall
import Derived.Lib.LaidTab
namespace Go.Proofs.YtnlcknklghalkaaDoor
open Go.RowKit
open Plain
set_option linter.unusedVariables false

def tabZ : List Int := [0, 1166650509, 2333301018, 3466261911, 3189058079, 4221339282, 889615109, 1888477064, 3558460437, 2442158232, 1594529039, 444807554, 1779230218, 797264519, 3776954128, 2761298845]
theorem tabZ_at : ∀ r, r < 16 → tabZ.getD r 0 = (tabN r : Int) := by decide
def Tabbed (w : World) : Prop := Lib.TabIs Tryd.prog w "loop.example/g00247/impl.halfSteps" .u32 tabZ
theorem gHalf : Tryd.prog.globalNamed "loop.example/g00247/impl.halfSteps" = some 0 := by kernel_rfl
theorem Tabbed.cell {w : World} (h : Tabbed w) (r : Nat) (hr : r < 16) : w.cell? ⟨0, r, none⟩ = some (.int .u32 (tabN r : Int)) := by
  have := Lib.TabIs.cell h gHalf r hr
  rw [tabZ_at r hr] at this
  exact this
theorem Tabbed.below {w w1 : World} (h : Below w.heap.size w w1) (ht : Tabbed w) : Tabbed w1 :=
  var?_below h gHalf (World.block_lt_of_cell? w _ (ht.cell 0 (by decide))) ht

set_option maxHeartbeats 1000000 in
set_option maxRecDepth 100000 in
theorem with_any (x : Nat) (c : Nat) (w : World) (hx : x < 4294967296) (hc : c < 256) (ht : Tabbed w) :
    Calls Tryd.prog 40 #[.int .u32 x, .int .u8 c] w fun e w' => e = .returned (.int .u32 (stepB x c : Nat)) ∧ Below w.heap.size w w' := by
  obtain ⟨y, hy⟩ : ∃ y, y = x ^^^ c := ⟨_, rfl⟩
  have hyl : y < 4294967296 := by rw [hy]; exact xor_lt hx (by omega)
  have b1 : bits .xor .u32 (x : Int) (c : Int) = (y : Int) := by rw [u32_xor_nat _ _ hx (by omega), hy]
  obtain ⟨z, hz⟩ : ∃ z, z = halfN 4 y := ⟨_, rfl⟩
  have hzl : z < 4294967296 := by rw [hz]; exact halfN_lt hyl 4
  have b2 : bits .xor .u32 ((y : Int) / 16) (tabN (y % 16) : Int) = (z : Int) := by
    rw [show (y : Int) / 16 = ((y / 16 : Nat) : Int) from by omega, u32_xor_nat _ _ (by omega) (tabN_lt (Nat.mod_lt _ (by decide))), hz, half4]
  have b3 : bits .xor .u32 ((z : Int) / 16) (tabN (z % 16) : Int) = (stepB x c : Nat) := by
    rw [show (z : Int) / 16 = ((z / 16 : Nat) : Int) from by omega, u32_xor_nat _ _ (by omega) (tabN_lt (Nat.mod_lt _ (by decide))), stepB, ← hy, half8, ← hz, ← half4]
  have c1 := ht.cell (y % 16) (Nat.mod_lt _ (by decide))
  have c2 := ht.cell (z % 16) (Nat.mod_lt _ (by decide))
  have HT := hide ht
  clear hy hz ht
  go_enter Tryd.func40, Tryd.ntmps40
  go_wp2
  go_ret
  exact ⟨rfl, Below.refl _ _⟩

theorem take_more {s : ByteArray} {k : Nat} (h : k < s.size) : s.data.toList.take (k + 1) = s.data.toList.take k ++ [s[k]] := by
  rw [List.take_add_one, List.getElem?_eq_getElem (show k < s.data.toList.length from h)]
  rfl
theorem take_whole {s : ByteArray} {k : Nat} (h : s.size ≤ k) : s.data.toList.take k = s.data.toList := List.take_of_length_le h
theorem sum_step (x : Nat) {s : ByteArray} {k : Nat} (h : k < s.size) : sumL x (s.data.toList.take (k + 1)) = stepB (sumL x (s.data.toList.take k)) s[k].toNat := by
  rw [take_more h, sumL_append]
  rfl

set_option maxHeartbeats 1000000 in
set_option maxRecDepth 100000 in
theorem impl_SumMore_any (x : Nat) (s : ByteArray) (w : World) (hx : x < 4294967296) (hs : s.size ≤ 1048576) (ht : Tabbed w) :
    Calls Tryd.prog 35 #[.int .u32 x, .string s] w fun e w' => e = .returned (.int .u32 (sumL x s.data.toList : Nat)) ∧ Below w.heap.size w w' := by
  have HT := hide ht
  clear ht
  go_enter Tryd.func35, Tryd.ntmps35
  go_wp2
  go_loopw [5, 10] (fun v i wr => ∃ k : Nat, k ≤ s.size ∧ i = .int .i64 k ∧ v = .int .u32 (sumL x (s.data.toList.take k) : Nat) ∧ Below w.heap.size w wr)
    (fun _ i _ => s.size - (intOf i).toNat)
  case atStart => exact ⟨0, Nat.zero_le _, rfl, rfl, Below.refl _ _⟩
  case round =>
    obtain ⟨k, hk, rfl, rfl, hbel⟩ := hrel
    by_cases hlt : k < s.size
    · have hst := hide (sum_step x hlt)
      obtain ⟨y, hy⟩ : ∃ y, y = sumL x (s.data.toList.take k) := ⟨_, rfl⟩
      have hyl : y < 4294967296 := by rw [hy]; exact sumL_lt _ hx
      rw [← hy]
      have hc : s[k].toNat < 256 := s[k].toNat_lt
      have hy' := hide hy
      clear hy
      go_wp2_with (go_at_call 40; refine (with_any y s[k].toNat _ hyl hc ((unhide HT).below hbel)).mono ?_; rintro e w1 ⟨rfl, hb1⟩)
      go_roundw
      case rel => exact ⟨k + 1, by omega, by go_num, by rw [unhide hst, ← unhide hy'], below2 hbel hb1⟩
      case measure => simp [intOf]; omega
    · have e : s.data.toList.take k = s.data.toList := take_whole (by omega)
      rw [e]
      go_wp2
      go_ret
      exact ⟨rfl, hbel⟩

def hide_half (j z u : Nat) : Prop := u = halfN j z
theorem odd_int {y : Nat} (h : y < 4294967296) (ho : y % 2 = 1) : bits .xor .u32 ((y : Int) / 2) 3558460437 = (half y : Nat) := by
  rw [show (y : Int) / 2 = ((y / 2 : Nat) : Int) from by omega, half_odd ho]
  exact u32_xor_nat _ 3558460437 (by omega) (by omega)
theorem even_int {y : Nat} (ho : y % 2 = 0) : (y : Int) / 2 = (half y : Nat) := by
  rw [half_even ho]; omega

set_option maxHeartbeats 1000000 in
set_option maxRecDepth 100000 in
theorem spec_SumMore_any (x : Nat) (s : ByteArray) (w : World) (hx : x < 4294967296) (hs : s.size ≤ 1048576) :
    Calls Tryd.prog 39 #[.int .u32 x, .string s] w fun e w' => e = .returned (.int .u32 (sumL x s.data.toList : Nat)) ∧ w' = w := by
  go_enter Tryd.func39, Tryd.ntmps39
  go_wp2
  go_loopw [0, 5] (fun v i wr => ∃ k : Nat, k ≤ s.size ∧ i = .int .i64 k ∧ v = .int .u32 (sumL x (s.data.toList.take k) : Nat) ∧ w = wr)
    (fun _ i _ => s.size - (intOf i).toNat)
  case atStart => exact ⟨0, Nat.zero_le _, rfl, rfl, rfl⟩
  case round =>
    obtain ⟨k, hk, rfl, rfl, rfl⟩ := hrel
    by_cases hlt : k < s.size
    · have hst := hide (sum_step x hlt)
      obtain ⟨y, hy⟩ : ∃ y, y = sumL x (s.data.toList.take k) := ⟨_, rfl⟩
      have hyl : y < 4294967296 := by rw [hy]; exact sumL_lt _ hx
      rw [← hy]
      have hc : s[k].toNat < 256 := s[k].toNat_lt
      have hy' := hide hy
      obtain ⟨z, hz⟩ : ∃ z, z = y ^^^ s[k].toNat := ⟨_, rfl⟩
      have hzl : z < 4294967296 := by rw [hz]; exact xor_lt hyl (by omega)
      have b1 : bits .xor .u32 (y : Int) (s[k].toNat : Int) = (z : Int) := by rw [u32_xor_nat _ _ hyl (by omega), hz]
      have hz' := hide hz
      clear hy hz
      go_wp2
      go_loopw [0, 6] (fun v i wr => ∃ j : Nat, j ≤ 8 ∧ i = .int .i64 j ∧ v = .int .u32 (halfN j z : Nat) ∧ w = wr)
        (fun _ i _ => 8 - (intOf i).toNat)
      case atStart => exact ⟨0, Nat.zero_le _, rfl, rfl, rfl⟩
      case round =>
        obtain ⟨j, hj, rfl, rfl, rfl⟩ := hrel
        by_cases hj8 : j < 8
        · obtain ⟨u, hu⟩ : ∃ u, u = halfN j z := ⟨_, rfl⟩
          have hul : u < 4294967296 := by rw [hu]; exact halfN_lt hzl j
          rw [← hu]
          have hsu : hide_half j z u := hu
          clear hu
          rcases Nat.mod_two_eq_zero_or_one u with ho | ho
          · have e1 := even_int ho
            have o1 : ((u : Int) % 2 == 1) = false := by simp; omega
            go_wp2
            go_roundw
            case rel => exact ⟨j + 1, by omega, by go_num, congrArg (fun n : Nat => Value.int .u32 (n : Int)) (congrArg half hsu), trivial⟩
            case measure => simp [intOf]; omega
          · have e1 := odd_int hul ho
            have o1 : ((u : Int) % 2 == 1) = true := by simp; omega
            go_wp2
            go_roundw
            case rel => exact ⟨j + 1, by omega, by go_num, congrArg (fun n : Nat => Value.int .u32 (n : Int)) (congrArg half hsu), trivial⟩
            case measure => simp [intOf]; omega
        · obtain rfl : j = 8 := by omega
          go_wp2
          go_roundw
          case rel => exact ⟨k + 1, by omega, by go_num, by rw [unhide hst, ← unhide hy', stepB, ← unhide hz'], trivial⟩
          case measure => simp [intOf]; omega
    · have e : s.data.toList.take k = s.data.toList := take_whole (by omega)
      rw [e]
      go_wp2
      go_ret
      exact ⟨rfl, rfl⟩
end Go.Proofs.YtnlcknklghalkaaDoor
