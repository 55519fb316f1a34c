/- Mails: the specification's PartOf, MailOk, l07Trim. -/
import Derived.Test.YtmkjocamknhcbabMailPlain
import Derived.Test.YtmkjocamknhcbabFlagReadS
namespace Go.Proofs.Ytmkjocamknhcbab
open Go.RowKit
open Plain
set_option linter.unusedVariables false

namespace Plain
theorem cut_bytes (s : ByteArray) (b i : Nat) : s.extract b i = ⟨((s.data.toList.drop b).take (i - b)).toArray⟩ := by
  apply ByteArray.ext
  apply Array.toList_inj.1
  rw [Lib.extract_data]
end Plain

set_option maxHeartbeats 2000000 in
set_option maxRecDepth 100000 in
theorem spec_PartOf_any (s : ByteArray) (p n : Int) (w : World) (hs : s.size ≤ 1048576) (hn1 : n ≤ 9223372036854775807) :
    Calls Try.prog 4 #[.string s, .int .i64 p, .int .i64 n] w fun e w' => e = .returned (.string ⟨(partL s.data.toList p n).toArray⟩) ∧ w' = w := by
  by_cases h1 : p < 0
  · have V := hide (partL_no (t := s.data.toList) (n := n) (.inl h1))
    have d1 : decide (p < 0) = true := by simpa using h1
    go_enter Try.func4, Try.ntmps4
    go_wp2
    go_ret
    exact ⟨by rw [unhide V]; rfl, rfl⟩
  · have d1 : decide (p < 0) = false := by simpa using h1
    by_cases h2 : n < 0
    · have V := hide (partL_no (t := s.data.toList) (p := p) (.inr (.inl h2)))
      have d2 : decide (n < 0) = true := by simpa using h2
      go_enter Try.func4, Try.ntmps4
      go_wp2
      go_ret
      exact ⟨by rw [unhide V]; rfl, rfl⟩
    · have d2 : decide (n < 0) = false := by simpa using h2
      by_cases h3 : (s.size : Int) < p
      · have V := hide (partL_no (t := s.data.toList) (p := p) (n := n) (.inr (.inr h3)))
        have d3 : decide ((s.size : Int) < p) = true := by simpa using h3
        go_enter Try.func4, Try.ntmps4
        go_wp2
        go_ret
        exact ⟨by rw [unhide V]; rfl, rfl⟩
      · have d3 : decide ((s.size : Int) < p) = false := by simpa using h3
        have V := hide (partL_in (t := s.data.toList) (p := p) (n := n) (fun h => by rcases h with h | h | h; exact h1 h; exact h2 h; exact h3 h))
        obtain ⟨P, rfl⟩ : ∃ P : Nat, p = (P : Int) := ⟨p.toNat, by omega⟩
        obtain ⟨N, rfl⟩ : ∃ N : Nat, n = (N : Int) := ⟨n.toNat, by omega⟩
        rw [Int.toNat_natCast, Int.toNat_natCast] at V
        have hP : P ≤ s.size := by omega
        by_cases h4 : (s.size : Int) - (P : Int) < (N : Int)
        · have d4 : decide ((s.size : Int) - (P : Int) < (N : Int)) = true := by simpa using h4
          have E := hide (cut_bytes s P (P + (s.size - P)))
          rw [List.take_of_length_le (by rw [List.length_drop]; show s.size - P ≤ P + (s.size - P) - P; omega)] at E
          rw [List.take_of_length_le (by rw [List.length_drop]; show s.size - P ≤ N; omega)] at V
          clear h1 h2 h3
          go_enter Try.func4, Try.ntmps4
          go_wp2
          go_ret
          exact ⟨by rw [unhide V, ← unhide E]; rfl, rfl⟩
        · have d4 : decide ((s.size : Int) - (P : Int) < (N : Int)) = false := by simpa using h4
          have E := hide (cut_bytes s P (P + N))
          rw [show P + N - P = N by omega] at E
          clear h1 h2 h3
          go_enter Try.func4, Try.ntmps4
          go_wp2
          go_ret
          exact ⟨by rw [unhide V, ← unhide E]; rfl, rfl⟩

namespace Plain
theorem all_step {t : List UInt8} {k : Nat} {x : UInt8} (h : t[k]? = some x) (ha : (t.take k).all (fun b => b != 0) = true) (hx : x ≠ 0) : (t.take (k + 1)).all (fun b => b != 0) = true := by
  rw [List.take_add_one, h, List.all_append, ha]
  simpa using hx
theorem all_no {t : List UInt8} {k : Nat} (h : t[k]? = some 0) : t.all (fun b => b != 0) = false := by
  rw [List.all_eq_false]
  exact ⟨0, List.mem_of_getElem? h, by decide⟩
end Plain

def strSize : Value → Nat
  | .string u => u.size
  | _ => 0
namespace Plain
theorem first_out {u : ByteArray} (h : 0 < u.size) : u.data.toList = u[0] :: (u.extract 1 u.size).data.toList := by
  rw [Lib.extract_data, List.take_of_length_le (by rw [List.length_drop]; exact Nat.le_refl _)]
  have := byte_at h
  cases hl : u.data.toList with
  | nil => rw [hl] at this; simp at this
  | cons x r =>
    rw [hl] at this
    have e : x = u[0] := by simpa using this
    rw [e]; rfl
theorem last_out {u : ByteArray} (h : u.size - 1 < u.size) : u.data.toList = (u.extract 0 (u.size - 1)).data.toList ++ [u[u.size - 1]] := by
  rw [Lib.extract_data, List.drop_zero, Nat.sub_zero]
  have hb := byte_at h
  have := List.take_add_one (l := u.data.toList) (i := u.size - 1)
  rw [hb, show u.size - 1 + 1 = u.size by omega, List.take_of_length_le (show u.data.toList.length ≤ u.size from Nat.le_refl _)] at this
  exact this
end Plain

end Go.Proofs.Ytmkjocamknhcbab
