/- Decimal figures read back: what both ReadDecimal answer. -/
import Derived.Test.YthnofckkehephaaGreatDoorDec
import Derived.Test.YthnofckkehephaaGreatDoorRDecPlain
import Derived.WalkMore
import Derived.Deep.LoopGhost
namespace Go.Proofs.YthnofckkehephaaGreatDoor
open Go.RowKit
open Plain
set_option linter.unusedVariables false

theorem spec_ReadDecimal_long (s : ByteArray) (w : World) (h : 10 < s.size) :
    Calls Tryz.prog 16 #[.string s] w fun e w' => e = .returned (ansD s.data.toList) ∧ Below w.heap.size w w' := by
  rw [ans_long (by simpa using h)]
  go_enter Tryz.func16, Tryz.ntmps16
  go_wp2
  go_ret2
  exact ⟨rfl, Below.refl _ _⟩

set_option maxHeartbeats 1000000 in
set_option maxRecDepth 100000 in
theorem spec_ReadDecimal_in (s : ByteArray) (w : World) (hs : s.size ≤ 10) :
    Calls Tryz.prog 16 #[.string s] w fun e w' => e = .returned (ansD s.data.toList) ∧ Below w.heap.size w w' := by
  have hl' := hide (show s.data.toList.length = s.size by simp)
  go_enter Tryz.func16, Tryz.ntmps16
  go_wp2
  go_loop [4, 5] (fun n i => ∃ k m : Nat, k ≤ s.size ∧ i = .int .i64 k ∧ n = .int .i64 m ∧ DvInv s.data.toList k m) (fun _ i => s.size - (intOf i).toNat)
  case atStart => exact ⟨0, 0, Nat.zero_le _, rfl, rfl, DvInv.start _⟩
  case round =>
    obtain ⟨k, m, hk, rfl, rfl, hinv⟩ := hrel
    have hsm := hinv.small (by omega)
    by_cases hlt : k < s.size
    · have hx : s[k].toNat < 256 := s[k].toNat_lt
      cases hd : isD s[k].toNat with
      | false =>
        have hb := hide (ans_bad (byteGet hlt) hd)
        have hd2 : s[k].toNat < 48 ∨ 57 < s[k].toNat := by
          have := (Bool.eq_false_iff.1 hd)
          rw [ne_eq, isD_iff] at this; omega
        clear hinv hd
        by_cases h48 : s[k].toNat < 48
        · have d1 : decide ((s[k].toNat : Int) < 48) = true := by simp; omega
          go_wp2
          go_ret2
          exact ⟨by rw [unhide hb]; rfl, Below.refl _ _⟩
        · have d1 : decide ((s[k].toNat : Int) < 48) = false := by simp; omega
          have d2 : decide ((57 : Int) < s[k].toNat) = true := by simp; omega
          go_wp2
          go_ret2
          exact ⟨by rw [unhide hb]; rfl, Below.refl _ _⟩
      | true =>
        have hst := hinv.step (byteGet hlt) hd
        rw [isD_iff] at hd
        have d1 : decide ((s[k].toNat : Int) < 48) = false := by simp; omega
        have d2 : decide ((57 : Int) < s[k].toNat) = false := by simp; omega
        clear hinv
        go_wp2
        go_round
        case rel => exact ⟨k + 1, _, by omega, by go_num, by go_num, hst⟩
        case measure => simp [intOf]; omega
    · have hall := hide (hinv.all (by rw [unhide hl']; omega))
      clear hinv
      by_cases hbig : 1000000000 < m
      · have d1 : decide ((1000000000 : Int) < m) = true := by simp; omega
        go_wp2
        go_ret2
        exact ⟨by rw [ans_no (unhide hall) (.inl hbig)]; rfl, Below.refl _ _⟩
      · have d1 : decide ((1000000000 : Int) < m) = false := by simp; omega
        go_wp2_with (go_at_call 23; refine (spec_Decimal_any _ _ ?_ ?_).mono ?_; omega; omega; rintro e w1 ⟨rfl, hb1⟩)
        · have hq : (!Lib.itoa (m : Int) == s.toList) = true := by assumption
          rw [ByteArray.toList_eq] at hq
          go_ret2
          exact ⟨by rw [ans_no (unhide hall) (.inr (by simpa using hq))]; rfl, by assumption⟩
        · have hq : (!Lib.itoa (m : Int) == s.toList) = false := by assumption
          rw [ByteArray.toList_eq] at hq
          go_ret2
          exact ⟨by rw [ans_yes (unhide hall) hbig (by simpa using hq)]; rfl, by assumption⟩

set_option maxHeartbeats 1000000 in
set_option maxRecDepth 100000 in
theorem impl_ReadDecimal_any (s : ByteArray) (w : World) (hs : s.size ≤ 1048576) (htab : Lib.TabIs Tryz.prog w "internal/strconv.uint64pow10" .u64 Lib.pow10Tab) :
    Calls Tryz.prog 34 #[.string s] w fun e w' => e = .returned (ansD s.data.toList) ∧ Below w.heap.size w w' := by
  have hl' := hide (show s.data.toList.length = s.size by simp)
  have cD := fun (n : Int) (h0 : -9223372036854775808 ≤ n) (h1 : n ≤ 9223372036854775807) => hide (impl_Decimal_any n w h0 h1 htab)
  have CD := hide cD
  clear htab cD
  go_enter Tryz.func34, Tryz.ntmps34
  go_wp2
  go_step3
  go_wp2
  go_step3
  go_wp2
  go_loop [4, 9] (fun n i => ∃ k m : Nat, k ≤ s.size ∧ m ≤ 10000000009 ∧ i = .int .i64 k ∧ n = .int .i64 m ∧ DvInv s.data.toList k m) (fun _ i => s.size - (intOf i).toNat)
  case atStart => exact ⟨0, 0, Nat.zero_le _, by omega, rfl, rfl, DvInv.start _⟩
  case round =>
    obtain ⟨k, m, hk, hm, rfl, rfl, hinv⟩ := hrel
    have cM := unhide CD m (by omega) (by omega)
    by_cases hlt : k < s.size
    · have hx : s[k].toNat < 256 := s[k].toNat_lt
      cases hd : isD s[k].toNat with
      | false =>
        have hb := hide (ans_bad (byteGet hlt) hd)
        have hi := hide (itoa_bad (n := m) (byteGet hlt) hd)
        have hd2 : s[k].toNat < 48 ∨ 57 < s[k].toNat := by
          have := (Bool.eq_false_iff.1 hd)
          rw [ne_eq, isD_iff] at this; omega
        clear hinv hd
        by_cases hbig : 1000000000 < m
        · have d3 : decide ((1000000000 : Int) < m) = true := by simp; omega
          by_cases h48 : s[k].toNat < 48
          · have d1 : decide ((s[k].toNat : Int) < 48) = true := by simp; omega
            go_wp2
            try rw [Exit.noGoto_ret]
            go_ret2
            exact ⟨by rw [unhide hb]; rfl, Below.refl _ _⟩
          · have d1 : decide ((s[k].toNat : Int) < 48) = false := by simp; omega
            have d2 : decide ((57 : Int) < s[k].toNat) = true := by simp; omega
            go_wp2
            try rw [Exit.noGoto_ret]
            go_ret2
            exact ⟨by rw [unhide hb]; rfl, Below.refl _ _⟩
        · have d3 : decide ((1000000000 : Int) < m) = false := by simp; omega
          by_cases h48 : s[k].toNat < 48
          · have d1 : decide ((s[k].toNat : Int) < 48) = true := by simp; omega
            go_wp2_with (go_at_call 41; refine (unhide cM).mono ?_; rintro e w1 ⟨rfl, hb1⟩)
            · try rw [Exit.noGoto_ret]
              go_ret2
              exact ⟨by rw [unhide hb]; rfl, by assumption⟩
            · have hq : (!Lib.itoa (m : Int) == s.toList) = false := by assumption
              rw [ByteArray.toList_eq] at hq
              exact absurd (by simpa using hq) (unhide hi)
          · have d1 : decide ((s[k].toNat : Int) < 48) = false := by simp; omega
            have d2 : decide ((57 : Int) < s[k].toNat) = true := by simp; omega
            go_wp2_with (go_at_call 41; refine (unhide cM).mono ?_; rintro e w1 ⟨rfl, hb1⟩)
            · try rw [Exit.noGoto_ret]
              go_ret2
              exact ⟨by rw [unhide hb]; rfl, by assumption⟩
            · have hq : (!Lib.itoa (m : Int) == s.toList) = false := by assumption
              rw [ByteArray.toList_eq] at hq
              exact absurd (by simpa using hq) (unhide hi)
      | true =>
        have hst := hinv.step (byteGet hlt) hd
        have hbg := hide (fun h : 1000000000 < m => ans_big (l := s.data.toList) (k := k) (by rw [hinv.1]; exact h))
        rw [isD_iff] at hd
        have d1 : decide ((s[k].toNat : Int) < 48) = false := by simp; omega
        have d2 : decide ((57 : Int) < s[k].toNat) = false := by simp; omega
        clear hinv
        by_cases hbig : 1000000000 < m
        · have d3 : decide ((1000000000 : Int) < m) = true := by simp; omega
          go_wp2
          try rw [Exit.noGoto_ret]
          go_ret2
          exact ⟨by rw [unhide hbg hbig]; rfl, Below.refl _ _⟩
        · have d3 : decide ((1000000000 : Int) < m) = false := by simp; omega
          go_wp2
          go_round
          case rel => exact ⟨k + 1, _, by omega, by omega, by go_num, by go_num, hst⟩
          case measure => simp [intOf]; omega
    · have hall := hide (hinv.all (by rw [unhide hl']; omega))
      clear hinv
      by_cases hbig : 1000000000 < m
      · have d1 : decide ((1000000000 : Int) < m) = true := by simp; omega
        go_wp2
        try rw [Exit.noGoto_ret]
        go_ret2
        exact ⟨by rw [ans_no (unhide hall) (.inl hbig)]; rfl, Below.refl _ _⟩
      · have d1 : decide ((1000000000 : Int) < m) = false := by simp; omega
        go_wp2_with (go_at_call 41; refine (unhide cM).mono ?_; rintro e w1 ⟨rfl, hb1⟩)
        · have hq : (!Lib.itoa (m : Int) == s.toList) = true := by assumption
          rw [ByteArray.toList_eq] at hq
          try rw [Exit.noGoto_ret]
          go_ret2
          exact ⟨by rw [ans_no (unhide hall) (.inr (by simpa using hq))]; rfl, by assumption⟩
        · have hq : (!Lib.itoa (m : Int) == s.toList) = false := by assumption
          rw [ByteArray.toList_eq] at hq
          try rw [Exit.noGoto_ret]
          go_ret2
          exact ⟨by rw [ans_yes (unhide hall) hbig (by simpa using hq)]; rfl, by assumption⟩
end Go.Proofs.YthnofckkehephaaGreatDoor
