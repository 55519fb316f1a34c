/- Mails: the specification's PartOf, MailOk, l07Trim. -/
import Derived.Test.YtkjlponggednoacMailPlain
import Derived.Test.YtkjlponggednoacFlagReadS
namespace Go.Proofs.Ytkjlponggednoac
open Go.RowKit
open Plain
set_option linter.unusedVariables false

namespace Plain
theorem cut_bytes (s : ByteArray) (b i : Nat) : s.extract b i = ⟨((s.data.toList.drop b).take (i - b)).toArray⟩ := by
  apply ByteArray.ext
  apply Array.toList_inj.1
  rw [Lib.extract_data]
end Plain

namespace Plain
theorem all_step {t : List UInt8} {k : Nat} {x : UInt8} (h : t[k]? = some x) (ha : (t.take k).all (fun b => b != 0) = true) (hx : x ≠ 0) : (t.take (k + 1)).all (fun b => b != 0) = true := by
  rw [List.take_add_one, h, List.all_append, ha]
  simpa using hx
theorem all_no {t : List UInt8} {k : Nat} (h : t[k]? = some 0) : t.all (fun b => b != 0) = false := by
  rw [List.all_eq_false]
  exact ⟨0, List.mem_of_getElem? h, by decide⟩
end Plain

set_option maxHeartbeats 2000000 in
set_option maxRecDepth 100000 in
theorem spec_MailOk_any (s : ByteArray) (w : World) (hs : s.size ≤ 1048576) :
    Calls Try.prog 52 #[.string s] w fun e w' => e = .returned (.bool (mailOkL s.data.toList)) ∧ w' = w := by
  have Q := hide (l01In_held (s.size : Int) 1 200 w)
  go_enter Try.func52, Try.ntmps52
  go_wp2
  go_loop [3] (fun i => ∃ k : Nat, k ≤ s.size ∧ i = .int .i64 k ∧ (s.data.toList.take k).all (fun b => b != 0) = true) (fun i => s.size - (intOf i).toNat)
  case atStart => exact ⟨0, Nat.zero_le _, rfl, rfl⟩
  case round =>
    obtain ⟨k, hk, rfl, hall⟩ := hrel
    by_cases hlt : k < s.size
    · have hb := byte_at hlt
      by_cases h0 : s[k].toNat = 0
      · have t0 : ((s[k].toNat : Int) == 0) = true := by rw [beq_iff_eq]; omega
        have e0 : s[k] = 0 := UInt8.toNat_inj.1 h0
        have V : Hid (mailOkL s.data.toList = false) := by
          show mailOkL _ = false
          unfold mailOkL
          rw [all_no (by rw [hb, e0])]
          rfl
        clear hall hb e0 h0
        go_wp2
        go_ret
        exact ⟨by rw [unhide V]; rfl, rfl⟩
      · have t0 : ((s[k].toNat : Int) == 0) = false := by rw [beq_eq_false_iff_ne]; omega
        have ST := hide (all_step hb hall (fun e => h0 (by rw [e]; rfl)))
        clear hall hb h0
        go_wp2
        exact ⟨⟨k + 1, by omega, by go_num, unhide ST⟩, by simp [intOf]; omega⟩
    · have e : s.data.toList.take k = s.data.toList := List.take_of_length_le (by show s.size ≤ k; omega)
      rw [e] at hall
      have V : Hid (mailOkL s.data.toList = (decide ((1 : Int) ≤ (s.size : Int)) && decide ((s.size : Int) ≤ 200))) := by
        show mailOkL _ = _
        unfold mailOkL
        rw [hall, Bool.true_and, show s.data.toList.length = s.size from rfl]
        congr 1
        · apply decide_eq_decide.2; omega
        · apply decide_eq_decide.2; omega
      clear hall e
      go_wp2_with (go_at_call 38; refine (unhide Q).mono ?_; rintro e w1 ⟨rfl, hw1⟩; subst w1)
      go_ret
      exact ⟨by rw [unhide V]; rfl, rfl⟩

def strSize : Value → Nat
  | .string u => u.size
  | _ => 0
namespace Plain
theorem first_out {u : ByteArray} (h : 0 < u.size) : u.data.toList = u[0] :: (u.extract 1 u.size).data.toList := by
  rw [Lib.extract_data, List.take_of_length_le (by rw [List.length_drop]; exact Nat.le_refl _)]
  have := byte_at h
  cases hl : u.data.toList with
  | nil => rw [hl] at this; simp at this
  | cons x r =>
    rw [hl] at this
    have e : x = u[0] := by simpa using this
    rw [e]; rfl
theorem last_out {u : ByteArray} (h : u.size - 1 < u.size) : u.data.toList = (u.extract 0 (u.size - 1)).data.toList ++ [u[u.size - 1]] := by
  rw [Lib.extract_data, List.drop_zero, Nat.sub_zero]
  have hb := byte_at h
  have := List.take_add_one (l := u.data.toList) (i := u.size - 1)
  rw [hb, show u.size - 1 + 1 = u.size by omega, List.take_of_length_le (show u.data.toList.length ≤ u.size from Nat.le_refl _)] at this
  exact this
end Plain

end Go.Proofs.Ytkjlponggednoac
