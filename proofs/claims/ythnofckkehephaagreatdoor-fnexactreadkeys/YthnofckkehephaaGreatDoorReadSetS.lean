/- The set that a text tells: the specification's l05Num, l05Part, ReadSet. -/
import Derived.Test.YthnofckkehephaaGreatDoorSetA
import Derived.Test.YthnofckkehephaaGreatDoorPlainA
namespace Go.Proofs.YthnofckkehephaaGreatDoor
open Go.RowKit
open Plain
set_option linter.unusedVariables false

namespace Plain
theorem num_star (last : Int) : numV [42] last = (last, true) := if_pos rfl
theorem num_len {t : List UInt8} {last : Int} (h : t ≠ [42]) (hl : ¬ (1 ≤ t.length ∧ t.length ≤ 4)) : numV t last = (0, false) := by unfold numV; rw [if_neg h, if_neg hl]
theorem num_fig {t : List UInt8} {last : Int} (h : t ≠ [42]) (hl : 1 ≤ t.length ∧ t.length ≤ 4) : numV t last = if t.all figOk then (figsV t, decide (1 ≤ figsV t)) else (0, false) := by unfold numV; rw [if_neg h, if_pos hl]
theorem figs_step {s : ByteArray} {k : Nat} (h : k < s.size) : s.data.toList.take (k + 1) = s.data.toList.take k ++ [s[k]] := by
  rw [List.take_add_one, byte_at h]; rfl
theorem all_part {t : List UInt8} (k : Nat) (h : (t.take k).all figOk = false) : t.all figOk = false := by
  cases hx : t.all figOk with
  | false => rfl
  | true =>
    rw [← List.take_append_drop k t, List.all_append, h] at hx
    cases hx
end Plain

set_option maxHeartbeats 2000000 in
set_option maxRecDepth 100000 in
theorem l05Num_any (s : ByteArray) (last : Int) (w : World) (hs : s.size ≤ 1048576) :
    Calls Tryz.prog 26 #[.string s, .int .i64 last] w fun e w' => e = .returned (.tuple #[.int .i64 (numV s.data.toList last).1, .bool (numV s.data.toList last).2]) ∧ w' = w := by
  by_cases hst : s.data.toList = [42]
  · have e : s = ⟨#[42]⟩ := by
      apply ByteArray.ext
      exact Array.toList_inj.1 hst
    subst e
    go_enter Tryz.func26, Tryz.ntmps26
    go_wp2
    go_ret2
    exact ⟨by rw [num_star]; rfl, rfl⟩
  · have HS := hide hst
    by_cases hl : 1 ≤ s.size ∧ s.size ≤ 4
    · have V := hide (num_fig (last := last) hst hl)
      have L : Hid (∀ W, Calls Tryz.prog 14 #[.int .i64 (s.size : Int), .int .i64 1, .int .i64 4] W fun e w' => e = .returned (.bool true) ∧ w' = W) := fun W => by
        have := l01In_is (s.size : Int) 1 4 W
        rw [decide_eq_true (show (1 : Int) ≤ (s.size : Int) by omega), decide_eq_true (show (s.size : Int) ≤ 4 by omega)] at this
        exact this
      obtain ⟨hl1, hl2⟩ := hl
      clear hst
      go_enter Tryz.func26, Tryz.ntmps26
      go_wp2_with (go_at_call 14; refine (unhide L _).mono ?_; rintro e w3 ⟨rfl, hw3⟩; subst w3)
      · exfalso
        have hx : s.toList = [42] := by first | assumption | (have hy : (s.toList == [42]) = true := (by assumption); simpa using hy)
        rw [ByteArray.toList_eq] at hx
        exact unhide HS hx
      · go_loop [6, 7] (fun n i => ∃ k : Nat, k ≤ s.size ∧ i = .int .i64 k ∧ n = .int .i64 (figsV (s.data.toList.take k)) ∧ (s.data.toList.take k).all figOk = true) (fun _ i => s.size - (intOf i).toNat)
        case atStart => exact ⟨0, Nat.zero_le _, rfl, rfl, rfl⟩
        case round =>
          obtain ⟨k, hk, rfl, rfl, hall⟩ := hrel
          have hb := figsV_bound _ hall
          have hlen : (s.data.toList.take k).length = k := by rw [List.length_take]; show min k s.size = k; omega
          rw [hlen] at hb
          have hp : (10 : Int) ^ k ≤ 10000 := by
            have : k = 0 ∨ k = 1 ∨ k = 2 ∨ k = 3 ∨ k = 4 := by omega
            rcases this with e | e | e | e | e <;> rw [e] <;> decide
          have hb0 := hb.1
          have hb1 : figsV (s.data.toList.take k) < 10000 := by omega
          clear hb hp hlen
          by_cases hlt : k < s.size
          · have ST := hide (figs_step hlt)
            have hx : s[k].toNat < 256 := s[k].toNat_lt
            have NO := hide (fun (h : figOk s[k] = false) => all_part (t := s.data.toList) (k + 1) (by rw [figs_step hlt, List.all_append]; simp [h]))
            have YES := hide (fun (h : figOk s[k] = true) => (by rw [figs_step hlt, List.all_append, hall]; simp [h] : (s.data.toList.take (k + 1)).all figOk = true))
            have SN := hide (figsV_snoc (s.data.toList.take k) s[k])
            rw [← unhide ST] at SN
            have FO := hide (show figOk s[k] = (decide (48 ≤ s[k].toNat) && decide (s[k].toNat ≤ 57)) from rfl)
            generalize figsV (s.data.toList.take k) = n at *
            clear hall
            by_cases h48 : 48 ≤ s[k].toNat
            · have d48 : decide ((s[k].toNat : Int) < 48) = false := by rw [decide_eq_false_iff_not]; omega
              by_cases h57 : s[k].toNat ≤ 57
              · have d57 : decide ((57 : Int) < (s[k].toNat : Int)) = false := by rw [decide_eq_false_iff_not]; omega
                have Y := hide (unhide YES (by rw [unhide FO, decide_eq_true h48, decide_eq_true h57]; rfl))
                go_wp2
                go_round
                case rel => exact ⟨k + 1, by omega, by go_num, by rw [unhide SN], unhide Y⟩
                case measure => simp [intOf]; omega
              · have d57 : decide ((57 : Int) < (s[k].toNat : Int)) = true := by rw [decide_eq_true_eq]; omega
                have Z := hide (unhide NO (by rw [unhide FO, decide_eq_false h57, Bool.and_false]))
                go_wp2
                go_ret2
                exact ⟨by rw [unhide V, unhide Z]; rfl, rfl⟩
            · have d48 : decide ((s[k].toNat : Int) < 48) = true := by rw [decide_eq_true_eq]; omega
              have Z := hide (unhide NO (by rw [unhide FO, decide_eq_false h48, Bool.false_and]))
              go_wp2
              go_ret2
              exact ⟨by rw [unhide V, unhide Z]; rfl, rfl⟩
          · have e : s.data.toList.take k = s.data.toList := List.take_of_length_le (by show s.size ≤ k; omega)
            rw [e] at hall hb0 hb1 ⊢
            rw [hall] at V
            have V' : Hid (numV s.data.toList last = (figsV s.data.toList, decide (1 ≤ figsV s.data.toList))) := unhide V
            clear V hall
            generalize figsV s.data.toList = n at *
            go_wp2
            go_ret2
            exact ⟨by rw [unhide V']; rfl, rfl⟩
    · have V := hide (num_len (last := last) hst hl)
      have L : Hid (∀ W, Calls Tryz.prog 14 #[.int .i64 (s.size : Int), .int .i64 1, .int .i64 4] W fun e w' => e = .returned (.bool false) ∧ w' = W) := fun W => by
        have := l01In_is (s.size : Int) 1 4 W
        have e : (decide ((1 : Int) ≤ (s.size : Int)) && decide ((s.size : Int) ≤ 4)) = false := by
          rw [Bool.and_eq_false_iff]
          by_cases h : 1 ≤ s.size
          · right; rw [decide_eq_false_iff_not]; omega
          · left; rw [decide_eq_false_iff_not]; omega
        rw [e] at this
        exact this
      clear hst
      go_enter Tryz.func26, Tryz.ntmps26
      go_wp2_with (go_at_call 14; refine (unhide L _).mono ?_; rintro e w3 ⟨rfl, hw3⟩; subst w3)
      · exfalso
        have hx : s.toList = [42] := by first | assumption | (have hy : (s.toList == [42]) = true := (by assumption); simpa using hy)
        rw [ByteArray.toList_eq] at hx
        exact unhide HS hx
      · go_ret2
        exact ⟨by rw [unhide V]; rfl, rfl⟩

namespace Plain
theorem ext_take2 (s : ByteArray) (n : Nat) : (s.extract 0 n).data.toList = s.data.toList.take n := by
  rw [Lib.extract_data]; simp
theorem ext_drop2 (s : ByteArray) (n : Nat) : (s.extract n s.size).data.toList = s.data.toList.drop n := by
  rw [Lib.extract_data, List.take_of_length_le (by simp)]
theorem ext_seg3 (s : ByteArray) (b i : Nat) : (s.extract b i).data.toList = seg s.data.toList b i := by
  rw [Lib.extract_data, seg, List.drop_take]
end Plain

set_option maxHeartbeats 2000000 in
set_option maxRecDepth 100000 in
theorem l05Part_any (s : ByteArray) (last : Int) (w : World) (hs : s.size ≤ 1048576) :
    Calls Tryz.prog 21 #[.string s, .int .i64 last] w fun e w' => e = .returned (.tuple #[.int .i64 (partV s.data.toList last).1, .int .i64 (partV s.data.toList last).2.1, .bool (partV s.data.toList last).2.2]) ∧ w' = w := by
  have N := hide (fun (t : ByteArray) (ht : t.size ≤ 1048576) => l05Num_any t last w ht)
  go_enter Tryz.func21, Tryz.ntmps21
  go_wp2
  go_loop [7] (fun i => ∃ k : Nat, k ≤ s.size ∧ i = .int .i64 k ∧ ∀ b ∈ s.data.toList.take k, b ≠ 58) (fun i => s.size - (intOf i).toNat)
  case atStart => exact ⟨0, Nat.zero_le _, rfl, by simp⟩
  case round =>
    obtain ⟨k, hk, rfl, hno⟩ := hrel
    by_cases hlt : k < s.size
    · have hbk := byte_at hlt
      by_cases h58 : s[k].toNat = 58
      · have d58 : ((s[k].toNat : Int) == 58) = true := by rw [beq_iff_eq]; omega
        have hb : s[k] = 58 := by
          apply UInt8.toNat_inj.1
          rw [h58]; rfl
        have V := hide (part_at (last := last) hno (by rw [hbk, hb]))
        have q1 := unhide N (s.extract 0 k) (by rw [ByteArray.size_extract]; omega)
        have q2 := unhide N (s.extract (k + 1) s.size) (by rw [ByteArray.size_extract]; omega)
        rw [ext_take2] at q1
        rw [ext_drop2] at q2
        have Q1 := hide q1
        have Q2 := hide q2
        have i1 : (0 : Int) ≤ (k : Int) + 1 := by omega
        have i2 : (k : Int) + 1 ≤ (s.size : Int) := by omega
        unfold upV at V
        generalize numV (s.data.toList.take k) last = x at *
        generalize numV (s.data.toList.drop (k + 1)) last = y at *
        obtain ⟨x1, x2⟩ := x
        obtain ⟨y1, y2⟩ := y
        simp only at V Q1 Q2
        clear hno hbk hb q1 q2 N h58
        by_cases hlt2 : y1 < x1
        · have dl : decide (y1 < x1) = true := by simpa using hlt2
          rw [if_pos hlt2] at V
          cases x2 with
          | true =>
            go_wp2_with fail
            refine (unhide Q1).mono ?_
            rintro e w1 ⟨rfl, hw1⟩
            subst w1
            go_wp2_with fail
            refine (unhide Q2).mono ?_
            rintro e w1 ⟨rfl, hw1⟩
            subst w1
            go_wp2
            go_ret3
            exact ⟨by rw [unhide V]; rfl, rfl⟩
          | false =>
            go_wp2_with fail
            refine (unhide Q1).mono ?_
            rintro e w1 ⟨rfl, hw1⟩
            subst w1
            go_wp2_with fail
            refine (unhide Q2).mono ?_
            rintro e w1 ⟨rfl, hw1⟩
            subst w1
            go_wp2
            go_ret3
            exact ⟨by rw [unhide V]; rfl, rfl⟩
        · have dl : decide (y1 < x1) = false := by simpa using hlt2
          rw [if_neg hlt2] at V
          cases x2 with
          | true =>
            go_wp2_with fail
            refine (unhide Q1).mono ?_
            rintro e w1 ⟨rfl, hw1⟩
            subst w1
            go_wp2_with fail
            refine (unhide Q2).mono ?_
            rintro e w1 ⟨rfl, hw1⟩
            subst w1
            go_wp2
            go_ret3
            exact ⟨by rw [unhide V]; rfl, rfl⟩
          | false =>
            go_wp2_with fail
            refine (unhide Q1).mono ?_
            rintro e w1 ⟨rfl, hw1⟩
            subst w1
            go_wp2_with fail
            refine (unhide Q2).mono ?_
            rintro e w1 ⟨rfl, hw1⟩
            subst w1
            go_wp2
            go_ret3
            exact ⟨by rw [unhide V]; rfl, rfl⟩
      · have d58 : ((s[k].toNat : Int) == 58) = false := by rw [beq_eq_false_iff_ne]; omega
        have NX : Hid (∀ b ∈ s.data.toList.take (k + 1), b ≠ 58) := fun b hb => by
          rw [figs_step hlt] at hb
          rcases List.mem_append.1 hb with hb | hb
          · exact hno b hb
          · simp at hb
            rw [hb]
            intro e
            rw [e] at h58
            exact h58 rfl
        clear hno hbk
        go_wp2
        go_round
        case rel => exact ⟨k + 1, by omega, by go_num, unhide NX⟩
        case measure => simp [intOf]; omega
    · have e : s.data.toList.take k = s.data.toList := List.take_of_length_le (by show s.size ≤ k; omega)
      rw [e] at hno
      have V := hide (part_no (last := last) hno)
      have q1 := unhide N s hs
      have Q1 := hide q1
      generalize numV s.data.toList last = x at *
      obtain ⟨x1, x2⟩ := x
      simp only at V Q1
      clear hno q1 N
      go_wp2_with fail
      refine (unhide Q1).mono ?_
      rintro e w1 ⟨rfl, hw1⟩
      subst w1
      go_wp2
      go_ret3
      exact ⟨by rw [unhide V]; rfl, rfl⟩
end Go.Proofs.YthnofckkehephaaGreatDoor
