/- Mails: the specification's l07Line, BodyOf. -/
import Derived.Test.YtmkjocamknhcbaaDoorMailS
namespace Go.Proofs.YtmkjocamknhcbaaDoor
open Go.RowKit
open Plain
set_option linter.unusedVariables false

namespace Plain
theorem body_on : ∀ (p r : List UInt8), (∀ b ∈ p, b ≠ 10) → bodyFrom false (p ++ 10 :: r) = bodyFrom true r := by
  intro p
  induction p with
  | nil => intro r _; rfl
  | cons b p ih =>
    intro r h
    rw [List.cons_append, bodyFrom, if_neg (h b (by simp)), ih r (fun x hx => h x (by simp [hx]))]
theorem body_line {p : List UInt8} (r : List UInt8) (h : ∀ b ∈ p, b ≠ 10) (hp : p ≠ []) : bodyFrom true (p ++ 10 :: r) = bodyFrom true r := by
  cases p with
  | nil => exact absurd rfl hp
  | cons b p => rw [List.cons_append, bodyFrom, if_neg (h b (by simp)), body_on p r (fun x hx => h x (by simp [hx]))]
theorem body_last : ∀ (p : List UInt8) (s : Bool), (∀ b ∈ p, b ≠ 10) → bodyFrom s p = [] := by
  intro p
  induction p with
  | nil => intro s _; rfl
  | cons b p ih =>
    intro s h
    rw [bodyFrom, if_neg (h b (by simp)), ih false (fun x hx => h x (by simp [hx]))]
theorem seg_ne {l : List UInt8} {a i : Nat} (h : a < i) (hi : i ≤ l.length) : seg l a i ≠ [] := by
  intro e
  have : (seg l a i).length = 0 := by rw [e]; rfl
  unfold seg at this
  rw [List.length_drop, List.length_take] at this
  omega
end Plain

set_option maxHeartbeats 2000000 in
set_option maxRecDepth 100000 in
theorem l07Line_any (s : ByteArray) (A : Nat) (w : World) (hs : s.size ≤ 1048576) (hA : A < s.size) :
    Calls Tryd.prog 38 #[.string s, .int .i64 A] w fun e w' => (∃ i, A ≤ i ∧ (∀ b ∈ seg s.data.toList A i, b ≠ 10) ∧ ((i < s.size ∧ s.data.toList[i]? = some 10 ∧ e = .returned (.tuple #[.string (s.extract A i), .int .i64 ((i + 1 : Nat) : Int)])) ∨ (i = s.size ∧ e = .returned (.tuple #[.string (s.extract A i), .int .i64 (s.size : Int)])))) ∧ w' = w := by
  have d0 : decide ((s.size : Int) ≤ (A : Int)) = false := by rw [decide_eq_false_iff_not]; omega
  go_enter Tryd.func38, Tryd.ntmps38
  go_wp2
  go_loop [6] (fun i => ∃ k : Nat, A ≤ k ∧ k ≤ s.size ∧ i = .int .i64 k ∧ ∀ b ∈ seg s.data.toList A k, b ≠ 10) (fun i => s.size - (intOf i).toNat)
  case atStart => exact ⟨A, Nat.le_refl _, by omega, rfl, by rw [seg_same]; intro x hx; cases hx⟩
  case round =>
    obtain ⟨k, hAk, hk, rfl, hno⟩ := hrel
    by_cases hlt : k < s.size
    · have hb := byte_at hlt
      by_cases h10 : s[k].toNat = 10
      · have t0 : ((s[k].toNat : Int) == 10) = true := by rw [beq_iff_eq]; omega
        have e0 : s[k] = 10 := UInt8.toNat_inj.1 h10
        rw [e0] at hb
        have N := hide hno
        have HB := hide hb
        have i1 : (A : Int) ≤ (k : Int) := by omega
        have i2 : (k : Int) ≤ (s.size : Int) := by omega
        clear hno hb e0 h10
        go_wp2
        go_ret2
        exact ⟨⟨k, hAk, unhide N, .inl ⟨hlt, by simpa using unhide HB, rfl⟩⟩, rfl⟩
      · have t0 : ((s[k].toNat : Int) == 10) = false := by rw [beq_eq_false_iff_ne]; omega
        have NX : Hid (∀ b ∈ seg s.data.toList A (k + 1), b ≠ 10) := fun y hy => by
          rw [seg_succ hAk hb] at hy
          rcases List.mem_append.1 hy with hy | hy
          · exact hno y hy
          · simp at hy
            rw [hy]
            exact fun e => h10 (by rw [e]; rfl)
        clear hno hb h10
        go_wp2
        exact ⟨⟨k + 1, by omega, by omega, by go_num, unhide NX⟩, by simp [intOf]; omega⟩
    · have e : k = s.size := by omega
      subst e
      have N := hide hno
      have i1 : (A : Int) ≤ (s.size : Int) := by omega
      clear hno
      go_wp2
      go_ret2
      exact ⟨⟨s.size, hAk, unhide N, .inr ⟨rfl, rfl⟩⟩, rfl⟩
theorem l07Line_none (s : ByteArray) (A : Nat) (w : World) (hs : s.size ≤ 1048576) (hA : s.size ≤ A) :
    Calls Tryd.prog 38 #[.string s, .int .i64 A] w fun e w' => e = .returned (.tuple #[.string ⟨#[]⟩, .int .i64 (-1)]) ∧ w' = w := by
  have d0 : decide ((s.size : Int) ≤ (A : Int)) = true := by rw [decide_eq_true_eq]; omega
  go_enter Tryd.func38, Tryd.ntmps38
  go_wp2
  go_ret2
  exact ⟨rfl, rfl⟩

namespace Plain
theorem line_cut {l : List UInt8} {a i : Nat} (h : a ≤ i) (hi : l[i]? = some 10) : l.drop a = seg l a i ++ 10 :: l.drop (i + 1) := by
  rw [drop_seg h, drop_eq hi]
theorem line_end {l : List UInt8} {a : Nat} (h : a ≤ l.length) : l.drop a = seg l a l.length := by
  rw [drop_seg h, List.drop_length, List.append_nil]
theorem cut_size {s : ByteArray} {a i : Nat} (h : a ≤ i) (hi : i ≤ s.size) : (s.extract a i).size = i - a := by rw [ByteArray.size_extract]; omega
theorem cut_full {s : ByteArray} {a i : Nat} (h : a < i) (hi : i ≤ s.size) : (s.extract a i).toList.isEmpty = false := by
  rw [ByteArray.toList_eq]
  have := cut_size (s := s) (Nat.le_of_lt h) hi
  cases hl : (s.extract a i).data.toList with
  | nil =>
    have h2 : (s.extract a i).data.toList.length = 0 := by rw [hl]; rfl
    have h3 : (s.extract a i).size = 0 := h2
    omega
  | cons x r => rfl
theorem cut_none (s : ByteArray) (a : Nat) : s.extract a a = ⟨#[]⟩ := by
  rw [cut_bytes]
  simp
end Plain

set_option maxHeartbeats 2000000 in
set_option maxRecDepth 100000 in
theorem spec_BodyOf_any (s : ByteArray) (w : World) (hs : s.size ≤ 1048576) :
    Calls Tryd.prog 21 #[.string s] w fun e w' => e = .returned (.string ⟨(bodyL s.data.toList).toArray⟩) ∧ w' = w := by
  have HL : Hid (s.data.toList.length = s.size) := rfl
  go_enter Tryd.func21, Tryd.ntmps21
  go_wp2
  go_loop [3] (fun p => ∃ A : Nat, A ≤ s.size ∧ p = .int .i64 A ∧ bodyFrom true (s.data.toList.drop A) = bodyL s.data.toList) (fun p => s.size - (intOf p).toNat)
  case atStart => exact ⟨0, Nat.zero_le _, rfl, rfl⟩
  case round =>
    obtain ⟨A, hA, rfl, hbd⟩ := hrel
    by_cases hlt : A < s.size
    · have Q := hide (l07Line_any s A w hs hlt)
      have BD := hide hbd
      clear hbd
      go_wp2_with fail
      refine (unhide Q).mono ?_
      rintro e w1 ⟨⟨i, hAi, hno, h⟩, hw1⟩
      subst w1
      rcases h with ⟨hi, h10, rfl⟩ | ⟨rfl, rfl⟩
      · have LC := hide (line_cut hAi h10)
        have d1 : decide (((i + 1 : Nat) : Int) < 0) = false := by rw [decide_eq_false_iff_not]; omega
        by_cases he : A = i
        · subst he
          have V : Hid (bodyL s.data.toList = s.data.toList.drop (A + 1)) := by
            show _ = _
            rw [← unhide BD, unhide LC, seg_same]
            rfl
          have E := hide (cut_bytes s (A + 1) s.size)
          rw [List.take_of_length_le (by rw [List.length_drop]; exact Nat.le_refl _)] at E
          rw [cut_none]
          have i1 : ((A + 1 : Nat) : Int) ≤ (s.size : Int) := by omega
          clear hno h10 LC BD Q
          go_wp2
          go_ret
          exact ⟨by rw [unhide V, ← unhide E]; rfl, rfl⟩
        · have z := cut_full (s := s) (show A < i by omega) (Nat.le_of_lt hi)
          have V : Hid (bodyFrom true (s.data.toList.drop (i + 1)) = bodyL s.data.toList) := by
            show _ = _
            rw [← unhide BD, unhide LC, body_line _ hno (seg_ne (by omega) (by rw [unhide HL]; omega))]
          clear hno h10 LC BD Q
          go_wp2
          exact ⟨⟨i + 1, by omega, by go_num, unhide V⟩, by simp [intOf]; omega⟩
      · have z := cut_full (s := s) hlt (Nat.le_refl _)
        have d1 : decide ((s.size : Int) < 0) = false := by rw [decide_eq_false_iff_not]; omega
        have V : Hid (bodyFrom true (s.data.toList.drop s.size) = bodyL s.data.toList) := by
          show _ = _
          rw [← unhide BD, line_end (show A ≤ s.data.toList.length from hA), show s.data.toList.length = s.size from rfl, body_last _ _ hno, List.drop_eq_nil_of_le (show s.data.toList.length ≤ s.size from Nat.le_refl _)]
          rfl
        clear hno BD Q
        go_wp2
        exact ⟨⟨s.size, Nat.le_refl _, by go_num, unhide V⟩, by simp [intOf]; omega⟩
    · have Q := hide (l07Line_none s A w hs (by omega))
      rw [List.drop_eq_nil_of_le (show s.data.toList.length ≤ A by rw [unhide HL]; omega)] at hbd
      have V := hide hbd
      clear hbd
      go_wp2_with fail
      refine (unhide Q).mono ?_
      rintro e w1 ⟨rfl, hw1⟩
      subst w1
      go_wp2
      go_ret
      exact ⟨by rw [← unhide V]; rfl, rfl⟩
end Go.Proofs.YtmkjocamknhcbaaDoor
