/- Commands: the specification's CommandText and what it calls. -/
import Derived.Test.YtjaohlnejkgkaaaDoorCmPlain
import Derived.Test.YtjaohlnejkgkaaaDoorBoxNameS
import Derived.Test.YtjaohlnejkgkaaaDoorDecS
namespace Go.Proofs.YtjaohlnejkgkaaaDoor
open Go.RowKit
open Plain
set_option linter.unusedVariables false
set_option linter.unusedSimpArgs false

theorem bool_ret {x y : Bool} (h : x = y) : Ending.returned (Value.bool x) = Ending.returned (Value.bool y) := by rw [h]
set_option maxHeartbeats 4000000 in
set_option maxRecDepth 100000 in
theorem spec_byte (b : UInt8) (w : World) : Calls Tryd.prog 43 #[.int .u8 (b.toNat : Int)] w fun e w' => e = .returned (.bool (plB b)) ∧ w' = w := by
  unfold plB
  generalize b.toNat = n
  go_enter Tryd.func43, Tryd.ntmps43
  go_wp2
  all_goals go_ret
  all_goals first
    | (refine ⟨bool_ret (x := true) ?_, rfl⟩; rw [Bool.eq_iff_iff]; simp only [Bool.and_eq_true, decide_eq_true_eq, Bool.not_eq_true', beq_eq_false_iff_ne, ne_eq, Bool.false_eq_true, true_iff, false_iff]; omega)
    | (refine ⟨bool_ret (x := (n : Int) != 34 && (n : Int) != 92 && (n : Int) != 40 && (n : Int) != 41 && (n : Int) != 123) ?_, rfl⟩; rw [Bool.eq_iff_iff]; simp only [Bool.and_eq_true, decide_eq_true_eq, Bool.not_eq_true', beq_eq_false_iff_ne, bne_iff_ne, ne_eq]; omega)
    | (refine ⟨bool_ret (x := false) ?_, rfl⟩; rw [Bool.eq_iff_iff]; simp only [Bool.and_eq_true, decide_eq_true_eq, Bool.not_eq_true', beq_eq_false_iff_ne, ne_eq, Bool.false_eq_true, true_iff, false_iff]; omega)

set_option maxHeartbeats 4000000 in
set_option maxRecDepth 100000 in
theorem spec_plain (s : ByteArray) (w : World) (hs : s.size ≤ 4194304) :
    Calls Tryd.prog 26 #[.string s] w fun e w' => e = .returned (.bool (plainW s.data.toList)) ∧ w' = w := by
  have hls : Hid (s.data.toList.length = s.size) := rfl
  have Q := hide (in_any (s.size : Int) 1 60 w)
  go_enter Tryd.func26, Tryd.ntmps26
  go_wp2
  go_loop [3] (fun i => ∃ k : Nat, k ≤ s.size ∧ i = .int .i64 k ∧ ∀ j c, j < k → s.data.toList[j]? = some c → plB c = true) (fun i => s.size - (intOf i).toNat)
  case atStart => exact ⟨0, Nat.zero_le _, rfl, fun j c hj => by omega⟩
  case round =>
    obtain ⟨k, hk, rfl, hall⟩ := hrel
    have HC := hide hall
    clear hall
    by_cases hlt : k < s.size
    · have hx : s.data.toList[k]? = some s[k] := List.getElem?_eq_getElem (l := s.data.toList) (i := k) hlt
      have NO := hide (fun h => plain_no hx h)
      have ON : Hid (plB s[k] = true → ∀ j c, j < k + 1 → s.data.toList[j]? = some c → plB c = true) := fun h j c hj hc => by
        by_cases e : j = k
        · subst e
          rw [hx] at hc
          cases hc
          exact h
        · exact unhide HC j c (by omega) hc
      clear hx HC
      have i1 : (0 : Int) ≤ (k : Int) := by omega
      have i2 : (k : Int) < (s.size : Int) := by omega
      go_wp2_with fail
      refine (spec_byte s[k] _).mono ?_
      rintro e w1 ⟨rfl, hw⟩
      subst w1
      cases h1 : plB s[k] with
      | true =>
        have ok := hide (unhide ON h1)
        go_wp2
        exact ⟨⟨k + 1, by omega, by go_num, unhide ok⟩, by simp [intOf]; omega⟩
      | false =>
        have no := hide (unhide NO h1)
        go_wp2
        go_ret
        exact ⟨by rw [unhide no]; rfl, rfl⟩
    · have e : k = s.size := by omega
      subst e
      have V : Hid (plainW s.data.toList = inI (s.size : Int) 1 60) := plain_yes (fun i c hc => unhide HC i c (by have := (List.getElem?_eq_some_iff.1 hc).1; have h2 := unhide hls; omega) hc)
      clear HC
      go_wp2_with (go_at_call 16; refine (unhide Q).mono ?_; rintro e w1 ⟨rfl, hw⟩; subst w1)
      go_ret
      exact ⟨by rw [unhide V]; rfl, rfl⟩

namespace Plain
theorem scan_nil (st : Bool) (n k : Nat) : scanL st n k [] = 0 := rfl
theorem scan_close {st : Bool} {n k : Nat} {r : List UInt8} : scanL st n k (41 :: r) = if n = 0 ∧ st = false then -1 else (k : Int) + 1 := by rw [scanL, if_pos rfl]
theorem scan_blank {st : Bool} {n k : Nat} {r : List UInt8} : scanL st n k (32 :: r) = if n = 0 then -1 else scanL false 0 (k + 1) r := by rw [scanL, if_neg (by decide), if_pos rfl]
theorem scan_other {st : Bool} {n k : Nat} {b : UInt8} {r : List UInt8} (h1 : b ≠ 41) (h2 : b ≠ 32) : scanL st n k (b :: r) = if plB b = false ∨ n = 60 then -1 else scanL false (n + 1) (k + 1) r := by rw [scanL, if_neg h1, if_neg h2]
theorem byte_ne {b c : UInt8} (h : b ≠ c) : ((b.toNat : Int) == (c.toNat : Int)) = false := by
  rw [beq_eq_false_iff_ne]
  intro e
  exact h (UInt8.toNat_inj.1 (by omega))
end Plain
set_option maxHeartbeats 4000000 in
set_option maxRecDepth 100000 in
theorem spec_list (s : ByteArray) (P : Nat) (w : World) (hs : s.size ≤ 4194304) (hP : P < s.size) :
    Calls Tryd.prog 27 #[.string s, .int .i64 (P : Int)] w fun e w' => e = .returned (.int .i64 (scanL true 0 (P + 1) (s.data.toList.drop (P + 1)))) ∧ w' = w := by
  obtain ⟨V, hV⟩ : ∃ V, scanL true 0 (P + 1) (s.data.toList.drop (P + 1)) = V := ⟨_, rfl⟩
  rw [hV]
  have HV := hide hV
  clear hV
  go_enter Tryd.func27, Tryd.ntmps27
  go_wp2
  go_loop [5, 6] (fun n i => ∃ k m : Nat, P + 1 ≤ k ∧ k ≤ s.size ∧ m ≤ 60 ∧ n = .int .i64 m ∧ i = .int .i64 k ∧ scanL (decide (k = P + 1)) m k (s.data.toList.drop k) = V) (fun _ i => s.size - (intOf i).toNat)
  case atStart => exact ⟨P + 1, 0, Nat.le_refl _, hP, by omega, rfl, by go_num, by rw [decide_eq_true rfl]; exact unhide HV⟩
  case round =>
    obtain ⟨k, m, hk0, hk, hm, rfl, rfl, hall⟩ := hrel
    have HC := hide hall
    clear hall HV
    by_cases hlt : k < s.size
    · have HD : Hid (s.data.toList.drop k = s[k] :: s.data.toList.drop (k + 1)) := List.drop_eq_getElem_cons (l := s.data.toList) hlt
      have i1 : (0 : Int) ≤ (k : Int) := by omega
      have i2 : (k : Int) < (s.size : Int) := by omega
      have w1 : IntKind.i64.wrap ((P : Int) + 1) = (P : Int) + 1 := by rw [IntKind.wrap_i64]; omega
      have w2 : IntKind.i64.wrap ((k : Int) + 1) = (k : Int) + 1 := by rw [IntKind.wrap_i64]; omega
      have w3 : IntKind.i64.wrap ((m : Int) + 1) = (m : Int) + 1 := by rw [IntKind.wrap_i64]; omega
      by_cases c1 : s[k] = 41
      · have VV : Hid (V = if m = 0 ∧ decide (k = P + 1) = false then -1 else (k : Int) + 1) := by show V = _; rw [← unhide HC, unhide HD, c1, scan_close]
        have d1 : ((s[k].toNat : Int) == 41) = true := by rw [c1]; decide
        clear HC HD c1
        by_cases c2 : m = 0
        · subst c2
          by_cases c3 : P + 1 < k
          · have d3 : decide ((P : Int) + 1 < (k : Int)) = true := by rw [decide_eq_true_eq]; omega
            have VX : Hid (V = -1) := by show V = _; rw [unhide VV, if_pos ⟨rfl, decide_eq_false (by omega)⟩]
            go_wp2
            go_ret
            exact ⟨by rw [unhide VX]; rfl, rfl⟩
          · have d3 : decide ((P : Int) + 1 < (k : Int)) = false := by rw [decide_eq_false_iff_not]; omega
            have VX : Hid (V = (k : Int) + 1) := by show V = _; rw [unhide VV, if_neg (by simp; omega)]
            go_wp2
            go_ret
            exact ⟨by rw [unhide VX]; rfl, rfl⟩
        · have d2 : ((m : Int) == 0) = false := by rw [beq_eq_false_iff_ne]; omega
          have VX : Hid (V = (k : Int) + 1) := by show V = _; rw [unhide VV, if_neg (by simp [c2])]
          go_wp2
          go_ret
          exact ⟨by rw [unhide VX]; rfl, rfl⟩
      · have d1 : ((s[k].toNat : Int) == 41) = false := byte_ne c1
        by_cases c2 : s[k] = 32
        · have VV : Hid (V = if m = 0 then -1 else scanL false 0 (k + 1) (s.data.toList.drop (k + 1))) := by show V = _; rw [← unhide HC, unhide HD, c2, scan_blank]
          have d2 : ((s[k].toNat : Int) == 32) = true := by rw [c2]; decide
          clear HC HD c1 c2
          by_cases c3 : m = 0
          · subst c3
            have VX : Hid (V = -1) := by show V = _; rw [unhide VV, if_pos rfl]
            go_wp2
            go_ret
            exact ⟨by rw [unhide VX]; rfl, rfl⟩
          · have d3 : ((m : Int) == 0) = false := by rw [beq_eq_false_iff_ne]; omega
            have VX : Hid (scanL (decide (k + 1 = P + 1)) 0 (k + 1) (s.data.toList.drop (k + 1)) = V) := by show _ = V; rw [unhide VV, if_neg c3, decide_eq_false (by omega)]
            go_wp2
            exact ⟨⟨k + 1, 0, by omega, by omega, by omega, rfl, by go_num, unhide VX⟩, by simp [intOf]; omega⟩
        · have d2 : ((s[k].toNat : Int) == 32) = false := byte_ne c2
          have VV : Hid (V = if plB s[k] = false ∨ m = 60 then -1 else scanL false (m + 1) (k + 1) (s.data.toList.drop (k + 1))) := by show V = _; rw [← unhide HC, unhide HD, scan_other c1 c2]
          clear HC HD c1 c2
          have QB := hide (spec_byte s[k] w)
          cases c3 : plB s[k] with
          | false =>
            have VX : Hid (V = -1) := by show V = _; rw [unhide VV, if_pos (.inl c3)]
            rw [c3] at QB
            go_wp2_with (refine (unhide QB).mono ?_; rintro e w1 ⟨rfl, hw⟩; subst w1)
            go_ret
            exact ⟨by rw [unhide VX]; rfl, rfl⟩
          | true =>
            rw [c3] at QB
            by_cases c4 : m = 60
            · have VX : Hid (V = -1) := by show V = _; rw [unhide VV, if_pos (.inr c4)]
              subst c4
              go_wp2_with (refine (unhide QB).mono ?_; rintro e w1 ⟨rfl, hw⟩; subst w1)
              go_ret
              exact ⟨by rw [unhide VX]; rfl, rfl⟩
            · have d4 : ((m : Int) == 60) = false := by rw [beq_eq_false_iff_ne]; omega
              have VX : Hid (scanL (decide (k + 1 = P + 1)) (m + 1) (k + 1) (s.data.toList.drop (k + 1)) = V) := by show _ = V; rw [unhide VV, if_neg (by simp [c3, c4]), decide_eq_false (by omega)]
              go_wp2_with (refine (unhide QB).mono ?_; rintro e w1 ⟨rfl, hw⟩; subst w1)
              exact ⟨⟨k + 1, m + 1, by omega, by omega, by omega, by go_num, by go_num, unhide VX⟩, by simp [intOf]; omega⟩
    · have e : k = s.size := by omega
      subst e
      have VX : Hid (V = 0) := by show V = _; rw [← unhide HC, List.drop_eq_nil_of_le (by show s.data.toList.length ≤ s.size; exact Nat.le_refl _), scan_nil]
      clear HC
      go_wp2
      go_ret
      exact ⟨by rw [unhide VX]; rfl, rfl⟩
end Go.Proofs.YtjaohlnejkgkaaaDoor
