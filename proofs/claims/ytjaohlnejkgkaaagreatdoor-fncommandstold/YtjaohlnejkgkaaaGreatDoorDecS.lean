/- Decimal figures: what the specification's Decimal answers. -/
import Derived.Test.YtjaohlnejkgkaaaGreatDoorFigure
import Derived.Test.YtjaohlnejkgkaaaGreatDoorPlainA
namespace Go.Proofs.YtjaohlnejkgkaaaGreatDoor
open Go.RowKit
open Plain
set_option linter.unusedVariables false

theorem spec_Decimal_zero (w : World) :
    Calls Tryz.prog 41 #[.int .i64 0] w fun e w' => e = .returned (.string ⟨(Lib.itoa 0).toArray⟩) ∧ Below w.heap.size w w' := by
  rw [show Lib.itoa 0 = [48] from by rw [show (0 : Int) = ((0 : Nat) : Int) from rfl, itoa_nat, Lib.decDigits, dif_pos (by omega)]; rfl]
  go_enter Tryz.func41, Tryz.ntmps41
  go_wp2
  go_ret
  exact ⟨rfl, Below.refl _ _⟩

set_option maxHeartbeats 1000000 in
set_option maxRecDepth 100000 in
theorem spec_Decimal_pos (N : Nat) (w : World) (h0 : N ≠ 0) (h1 : N ≤ 9223372036854775807) :
    Calls Tryz.prog 41 #[.int .i64 N] w fun e w' => e = .returned (.string ⟨(Lib.itoa N).toArray⟩) ∧ Below w.heap.size w w' := by
  rw [itoa_nat]
  have d0 : ((N : Int) == 0) = false := by simp; omega
  have d1 : decide ((N : Int) < 0) = false := by simp
  have H0 := hide h0
  clear h0
  go_enter Tryz.func41, Tryz.ntmps41
  go_wp2
  go_loopw [0, 4] (fun n v wr => ∃ (m : Nat) (suf : List UInt8), n = .int .i64 m ∧ m ≤ 9223372036854775807 ∧ v = .string ⟨suf.toArray⟩ ∧ DecInv N m suf ∧ Below w.heap.size w wr)
    (fun n _ _ => (intOf n).toNat)
  case atStart => exact ⟨N, [], rfl, h1, rfl, DecInv.start N, Below.refl _ _⟩
  case round =>
    obtain ⟨m, suf, rfl, hm, rfl, hinv, hbel⟩ := hrel
    have hsl := hinv.2
    have hsl' : (⟨suf.toArray⟩ : ByteArray).size ≤ 20 := hsl
    by_cases hz : m = 0
    · subst hz
      have hd := hide (hinv.done (unhide H0))
      clear hinv
      go_wp2
      go_ret
      exact ⟨by rw [unhide hd]; rfl, hbel⟩
    · have dz1 : ((m : Int) != 0) = true := by simp; omega
      have dz2 : decide ((m : Int) % 10 < 0) = false := by simp; omega
      have hst := hinv.step (by omega) hz
      have hcv : ∀ W : World, (convert 22 9 (.slice (some ⟨W.heap.size, 0, none⟩) 1 1)).run Tryz.prog (W.alloc (.cells #[.int .u8 (figI ((m : Int) % 10))] 5)) = .ok (.string ⟨[fig (m % 10)].toArray⟩) (W.alloc (.cells #[.int .u8 (figI ((m : Int) % 10))] 5)) := fun W => one_str W (fig (m % 10))
      have HZ := hide hz
      clear hinv hz
      go_wp2_with (go_at_call 65; refine (l01Figure_any _ _ ?_ ?_).mono ?_; omega; omega; rintro e w1 ⟨rfl, rfl⟩)
      go_roundw
      case rel => exact ⟨m / 10, fig (m % 10) :: suf, by go_num, by omega, congrArg Value.string (ByteArray.mk_append_mk [fig (m % 10)] suf), hst, hbel.alloc hbel.size _⟩
      case measure => have := unhide HZ; simp [intOf]; omega

set_option maxHeartbeats 1000000 in
set_option maxRecDepth 100000 in
theorem spec_Decimal_neg (N : Nat) (w : World) (h0 : N ≠ 0) (h1 : N ≤ 9223372036854775808) :
    Calls Tryz.prog 41 #[.int .i64 (-(N : Int))] w fun e w' => e = .returned (.string ⟨(Lib.itoa (-(N : Int))).toArray⟩) ∧ Below w.heap.size w w' := by
  rw [itoa_neg h0]
  have d0 : (-(N : Int) == 0) = false := by simp; omega
  have d1 : decide (-(N : Int) < 0) = true := by simp; omega
  have d2 : decide (0 < N) = true := by simp; omega
  have H0 := hide h0
  clear h0
  go_enter Tryz.func41, Tryz.ntmps41
  go_wp2
  go_loopw [0, 4] (fun n v wr => ∃ (m : Nat) (suf : List UInt8), n = .int .i64 (-(m : Int)) ∧ m ≤ 9223372036854775808 ∧ v = .string ⟨suf.toArray⟩ ∧ DecInv N m suf ∧ Below w.heap.size w wr)
    (fun n _ _ => (intOf n).natAbs)
  case atStart => exact ⟨N, [], rfl, h1, rfl, DecInv.start N, Below.refl _ _⟩
  case round =>
    obtain ⟨m, suf, rfl, hm, rfl, hinv, hbel⟩ := hrel
    have hsl := hinv.2
    have hsl' : (⟨suf.toArray⟩ : ByteArray).size ≤ 20 := hsl
    by_cases hz : m = 0
    · subst hz
      have hd := hide (hinv.done (unhide H0))
      clear hinv
      go_wp2
      go_ret
      exact ⟨by rw [← unhide hd]; exact congrArg (fun b => Ending.returned (Value.string b)) (ByteArray.mk_append_mk [45] suf), hbel⟩
    · have dz1 : (-(m : Int) != 0) = true := by simp; omega
      have hst := hinv.step (by omega) hz
      obtain ⟨r, hr⟩ : ∃ r, r = m % 10 := ⟨_, rfl⟩
      obtain ⟨q, hq⟩ : ∃ q, q = m / 10 := ⟨_, rfl⟩
      have t1 := tmod_neg m
      have t2 := tdiv_neg m
      rw [← hr] at hst t1
      rw [← hq] at hst t2
      have hr9 : r ≤ 9 := by omega
      have hq9 : q ≤ 922337203685477580 := by omega
      have hqm : q < m := by omega
      have HQ := hide hqm
      have hcv : ∀ W : World, (convert 22 9 (.slice (some ⟨W.heap.size, 0, none⟩) 1 1)).run Tryz.prog (W.alloc (.cells #[.int .u8 (figI (r : Int))] 5)) = .ok (.string ⟨[fig r].toArray⟩) (W.alloc (.cells #[.int .u8 (figI (r : Int))] 5)) := fun W => one_str W (fig r)
      clear hinv hr hq hqm hz
      by_cases hr0 : r = 0
      · subst hr0
        have hcv0 : ∀ W : World, (convert 22 9 (.slice (some ⟨W.heap.size, 0, none⟩) 1 1)).run Tryz.prog (W.alloc (.cells #[.int .u8 (figI 0)] 5)) = .ok (.string ⟨[fig 0].toArray⟩) (W.alloc (.cells #[.int .u8 (figI 0)] 5)) := fun W => one_str W (fig 0)
        clear hcv
        go_wp2_with (go_at_call 65; refine (l01Figure_any _ _ ?_ ?_).mono ?_; omega; omega; rintro e w1 ⟨rfl, rfl⟩)
        go_roundw
        case rel => exact ⟨q, _ :: suf, rfl, by omega, congrArg Value.string (ByteArray.mk_append_mk [_] suf), hst, hbel.alloc hbel.size _⟩
        case measure => have := unhide HQ; simp [intOf]; omega
      · have dr : decide (-(r : Int) < 0) = true := by simp; omega
        go_wp2_with (go_at_call 65; refine (l01Figure_any _ _ ?_ ?_).mono ?_; omega; omega; rintro e w1 ⟨rfl, rfl⟩)
        go_roundw
        case rel => exact ⟨q, _ :: suf, rfl, by omega, congrArg Value.string (ByteArray.mk_append_mk [_] suf), hst, hbel.alloc hbel.size _⟩
        case measure => have := unhide HQ; simp [intOf]; omega

theorem spec_Decimal_any (n : Int) (w : World) (h0 : -9223372036854775808 ≤ n) (h1 : n ≤ 9223372036854775807) :
    Calls Tryz.prog 41 #[.int .i64 n] w fun e w' => e = .returned (.string ⟨(Lib.itoa n).toArray⟩) ∧ Below w.heap.size w w' := by
  by_cases hz : n = 0
  · subst hz; exact spec_Decimal_zero w
  · by_cases hp : 0 ≤ n
    · obtain ⟨N, rfl⟩ := Int.eq_ofNat_of_zero_le hp
      exact spec_Decimal_pos N w (by omega) (by omega)
    · obtain ⟨N, hN⟩ := Int.eq_ofNat_of_zero_le (show 0 ≤ -n by omega)
      obtain rfl : n = -(N : Int) := by omega
      exact spec_Decimal_neg N w (by omega) (by omega)
end Go.Proofs.YtjaohlnejkgkaaaGreatDoor
