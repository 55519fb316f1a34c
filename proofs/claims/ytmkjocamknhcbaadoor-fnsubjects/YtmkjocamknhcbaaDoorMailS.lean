/- Mails: the specification's PartOf, MailOk, l07Trim. -/
import Derived.Test.YtmkjocamknhcbaaDoorMailPlain
import Derived.Test.YtmkjocamknhcbaaDoorFlagReadS
namespace Go.Proofs.YtmkjocamknhcbaaDoor
open Go.RowKit
open Plain
set_option linter.unusedVariables false

namespace Plain
theorem cut_bytes (s : ByteArray) (b i : Nat) : s.extract b i = ⟨((s.data.toList.drop b).take (i - b)).toArray⟩ := by
  apply ByteArray.ext
  apply Array.toList_inj.1
  rw [Lib.extract_data]
end Plain

set_option maxHeartbeats 2000000 in
set_option maxRecDepth 100000 in
theorem spec_PartOf_any (s : ByteArray) (p n : Int) (w : World) (hs : s.size ≤ 1048576) (hn1 : n ≤ 9223372036854775807) :
    Calls Tryd.prog 15 #[.string s, .int .i64 p, .int .i64 n] w fun e w' => e = .returned (.string ⟨(partL s.data.toList p n).toArray⟩) ∧ w' = w := by
  by_cases h1 : p < 0
  · have V := hide (partL_no (t := s.data.toList) (n := n) (.inl h1))
    have d1 : decide (p < 0) = true := by simpa using h1
    go_enter Tryd.func15, Tryd.ntmps15
    go_wp2
    go_ret
    exact ⟨by rw [unhide V]; rfl, rfl⟩
  · have d1 : decide (p < 0) = false := by simpa using h1
    by_cases h2 : n < 0
    · have V := hide (partL_no (t := s.data.toList) (p := p) (.inr (.inl h2)))
      have d2 : decide (n < 0) = true := by simpa using h2
      go_enter Tryd.func15, Tryd.ntmps15
      go_wp2
      go_ret
      exact ⟨by rw [unhide V]; rfl, rfl⟩
    · have d2 : decide (n < 0) = false := by simpa using h2
      by_cases h3 : (s.size : Int) < p
      · have V := hide (partL_no (t := s.data.toList) (p := p) (n := n) (.inr (.inr h3)))
        have d3 : decide ((s.size : Int) < p) = true := by simpa using h3
        go_enter Tryd.func15, Tryd.ntmps15
        go_wp2
        go_ret
        exact ⟨by rw [unhide V]; rfl, rfl⟩
      · have d3 : decide ((s.size : Int) < p) = false := by simpa using h3
        have V := hide (partL_in (t := s.data.toList) (p := p) (n := n) (fun h => by rcases h with h | h | h; exact h1 h; exact h2 h; exact h3 h))
        obtain ⟨P, rfl⟩ : ∃ P : Nat, p = (P : Int) := ⟨p.toNat, by omega⟩
        obtain ⟨N, rfl⟩ : ∃ N : Nat, n = (N : Int) := ⟨n.toNat, by omega⟩
        rw [Int.toNat_natCast, Int.toNat_natCast] at V
        have hP : P ≤ s.size := by omega
        by_cases h4 : (s.size : Int) - (P : Int) < (N : Int)
        · have d4 : decide ((s.size : Int) - (P : Int) < (N : Int)) = true := by simpa using h4
          have E := hide (cut_bytes s P (P + (s.size - P)))
          rw [List.take_of_length_le (by rw [List.length_drop]; show s.size - P ≤ P + (s.size - P) - P; omega)] at E
          rw [List.take_of_length_le (by rw [List.length_drop]; show s.size - P ≤ N; omega)] at V
          clear h1 h2 h3
          go_enter Tryd.func15, Tryd.ntmps15
          go_wp2
          go_ret
          exact ⟨by rw [unhide V, ← unhide E]; rfl, rfl⟩
        · have d4 : decide ((s.size : Int) - (P : Int) < (N : Int)) = false := by simpa using h4
          have E := hide (cut_bytes s P (P + N))
          rw [show P + N - P = N by omega] at E
          clear h1 h2 h3
          go_enter Tryd.func15, Tryd.ntmps15
          go_wp2
          go_ret
          exact ⟨by rw [unhide V, ← unhide E]; rfl, rfl⟩

namespace Plain
theorem all_step {t : List UInt8} {k : Nat} {x : UInt8} (h : t[k]? = some x) (ha : (t.take k).all (fun b => b != 0) = true) (hx : x ≠ 0) : (t.take (k + 1)).all (fun b => b != 0) = true := by
  rw [List.take_add_one, h, List.all_append, ha]
  simpa using hx
theorem all_no {t : List UInt8} {k : Nat} (h : t[k]? = some 0) : t.all (fun b => b != 0) = false := by
  rw [List.all_eq_false]
  exact ⟨0, List.mem_of_getElem? h, by decide⟩
end Plain

set_option maxHeartbeats 2000000 in
set_option maxRecDepth 100000 in
theorem spec_MailOk_any (s : ByteArray) (w : World) (hs : s.size ≤ 1048576) :
    Calls Tryd.prog 24 #[.string s] w fun e w' => e = .returned (.bool (mailOkL s.data.toList)) ∧ w' = w := by
  have Q := hide (l01In_held (s.size : Int) 1 200 w)
  go_enter Tryd.func24, Tryd.ntmps24
  go_wp2
  go_loop [3] (fun i => ∃ k : Nat, k ≤ s.size ∧ i = .int .i64 k ∧ (s.data.toList.take k).all (fun b => b != 0) = true) (fun i => s.size - (intOf i).toNat)
  case atStart => exact ⟨0, Nat.zero_le _, rfl, rfl⟩
  case round =>
    obtain ⟨k, hk, rfl, hall⟩ := hrel
    by_cases hlt : k < s.size
    · have hb := byte_at hlt
      by_cases h0 : s[k].toNat = 0
      · have t0 : ((s[k].toNat : Int) == 0) = true := by rw [beq_iff_eq]; omega
        have e0 : s[k] = 0 := UInt8.toNat_inj.1 h0
        have V : Hid (mailOkL s.data.toList = false) := by
          show mailOkL _ = false
          unfold mailOkL
          rw [all_no (by rw [hb, e0])]
          rfl
        clear hall hb e0 h0
        go_wp2
        go_ret
        exact ⟨by rw [unhide V]; rfl, rfl⟩
      · have t0 : ((s[k].toNat : Int) == 0) = false := by rw [beq_eq_false_iff_ne]; omega
        have ST := hide (all_step hb hall (fun e => h0 (by rw [e]; rfl)))
        clear hall hb h0
        go_wp2
        exact ⟨⟨k + 1, by omega, by go_num, unhide ST⟩, by simp [intOf]; omega⟩
    · have e : s.data.toList.take k = s.data.toList := List.take_of_length_le (by show s.size ≤ k; omega)
      rw [e] at hall
      have V : Hid (mailOkL s.data.toList = (decide ((1 : Int) ≤ (s.size : Int)) && decide ((s.size : Int) ≤ 200))) := by
        show mailOkL _ = _
        unfold mailOkL
        rw [hall, Bool.true_and, show s.data.toList.length = s.size from rfl]
        congr 1
        · apply decide_eq_decide.2; omega
        · apply decide_eq_decide.2; omega
      clear hall e
      go_wp2_with (go_at_call 43; refine (unhide Q).mono ?_; rintro e w1 ⟨rfl, hw1⟩; subst w1)
      go_ret
      exact ⟨by rw [unhide V]; rfl, rfl⟩

def strSize : Value → Nat
  | .string u => u.size
  | _ => 0
namespace Plain
theorem first_out {u : ByteArray} (h : 0 < u.size) : u.data.toList = u[0] :: (u.extract 1 u.size).data.toList := by
  rw [Lib.extract_data, List.take_of_length_le (by rw [List.length_drop]; exact Nat.le_refl _)]
  have := byte_at h
  cases hl : u.data.toList with
  | nil => rw [hl] at this; simp at this
  | cons x r =>
    rw [hl] at this
    have e : x = u[0] := by simpa using this
    rw [e]; rfl
theorem last_out {u : ByteArray} (h : u.size - 1 < u.size) : u.data.toList = (u.extract 0 (u.size - 1)).data.toList ++ [u[u.size - 1]] := by
  rw [Lib.extract_data, List.drop_zero, Nat.sub_zero]
  have hb := byte_at h
  have := List.take_add_one (l := u.data.toList) (i := u.size - 1)
  rw [hb, show u.size - 1 + 1 = u.size by omega, List.take_of_length_le (show u.data.toList.length ≤ u.size from Nat.le_refl _)] at this
  exact this
end Plain

set_option maxHeartbeats 2000000 in
set_option maxRecDepth 100000 in
theorem l07Trim_any (s : ByteArray) (w : World) (hs : s.size ≤ 1048576) :
    Calls Tryd.prog 40 #[.string s] w fun e w' => e = .returned (.string ⟨(trimL s.data.toList).toArray⟩) ∧ w' = w := by
  go_enter Tryd.func40, Tryd.ntmps40
  go_wp2
  go_loop [0] (fun v => ∃ u : ByteArray, u.size ≤ 1048576 ∧ v = .string u ∧ trimA u.data.toList = trimA s.data.toList) (fun v => strSize v)
  case atStart => exact ⟨s, hs, rfl, rfl⟩
  case round =>
    obtain ⟨u, hu, rfl, htr⟩ := hrel
    by_cases h0 : 0 < u.size
    · have d0 : decide ((0 : Int) < (u.size : Int)) = true := by rw [decide_eq_true_eq]; omega
      have F := first_out h0
      by_cases h32 : u[0].toNat = 32
      · have t0 : ((u[0].toNat : Int) == 32) = true := by rw [beq_iff_eq]; omega
        have e0 : u[0] = 32 := UInt8.toNat_inj.1 h32
        rw [F, e0, trimA_cons] at htr
        have TR := hide htr
        have hsz : (u.extract 1 u.size).size = u.size - 1 := by rw [ByteArray.size_extract]; omega
        have HZ := hide hsz
        have i1 : (1 : Int) ≤ (u.size : Int) := by omega
        clear htr F e0 h32 hsz
        go_wp2
        exact ⟨⟨u.extract 1 u.size, by rw [unhide HZ]; omega, rfl, unhide TR⟩, by show (u.extract 1 u.size).size < u.size; rw [unhide HZ]; omega⟩
      · have t0 : ((u[0].toNat : Int) == 32) = false := by rw [beq_eq_false_iff_ne]; omega
        have TA : Hid (u.data.toList = trimA s.data.toList) := by
          show _ = _
          rw [← htr, F, trimA_no _ (fun e => h32 (by rw [e]; rfl))]
        clear htr F h32
        go_wp2
        go_loop [0] (fun v => ∃ z : ByteArray, z.size ≤ 1048576 ∧ v = .string z ∧ trimZ z.data.toList = trimL s.data.toList) (fun v => strSize v)
        case atStart => exact ⟨u, hu, rfl, by rw [unhide TA]; rfl⟩
        case round =>
          obtain ⟨z, hz, rfl, htr⟩ := hrel
          by_cases k0 : 0 < z.size
          · have d1 : decide ((0 : Int) < (z.size : Int)) = true := by rw [decide_eq_true_eq]; omega
            have k1 : z.size - 1 < z.size := by omega
            have i0 : (1 : Int) ≤ (z.size : Int) := by omega
            have F := last_out k1
            by_cases h32 : z[z.size - 1].toNat = 32
            · have t1 : ((z[z.size - 1].toNat : Int) == 32) = true := by rw [beq_iff_eq]; omega
              have e0 : z[z.size - 1] = 32 := UInt8.toNat_inj.1 h32
              rw [F, e0, trimZ_snoc] at htr
              have TR := hide htr
              have hsz : (z.extract 0 (z.size - 1)).size = z.size - 1 := by rw [ByteArray.size_extract]; omega
              have HZ := hide hsz
              clear htr F e0 h32 hsz
              go_wp2
              exact ⟨⟨z.extract 0 (z.size - 1), by rw [unhide HZ]; omega, rfl, unhide TR⟩, by show (z.extract 0 (z.size - 1)).size < z.size; rw [unhide HZ]; omega⟩
            · have t1 : ((z[z.size - 1].toNat : Int) == 32) = false := by rw [beq_eq_false_iff_ne]; omega
              have TZ : Hid (z.data.toList = trimL s.data.toList) := by
                show _ = _
                rw [← htr]
                have := trimZ_no (z.extract 0 (z.size - 1)).data.toList (b := z[z.size - 1]) (fun e => h32 (by rw [e]; rfl))
                rw [← F] at this
                exact this.symm
              clear htr F h32
              go_wp2
              go_ret
              exact ⟨by rw [← unhide TZ]; rfl, rfl⟩
          · have d1 : decide ((0 : Int) < (z.size : Int)) = false := by rw [decide_eq_false_iff_not]; omega
            have zn : z.data.toList = [] := List.eq_nil_of_length_eq_zero (by show z.size = 0; omega)
            have TZ : Hid (z.data.toList = trimL s.data.toList) := by
              show _ = _
              rw [← htr, zn]
              rfl
            clear htr zn
            go_wp2
            go_ret
            exact ⟨by rw [← unhide TZ]; rfl, rfl⟩
    · have d0 : decide ((0 : Int) < (u.size : Int)) = false := by rw [decide_eq_false_iff_not]; omega
      have un : u.data.toList = [] := List.eq_nil_of_length_eq_zero (by show u.size = 0; omega)
      have TA : Hid (u.data.toList = trimA s.data.toList) := by
        show _ = _
        rw [← htr, un]
        rfl
      clear htr un
      go_wp2
      go_loop [0] (fun v => ∃ z : ByteArray, z.size ≤ 1048576 ∧ v = .string z ∧ trimZ z.data.toList = trimL s.data.toList) (fun v => strSize v)
      case atStart => exact ⟨u, hu, rfl, by rw [unhide TA]; rfl⟩
      case round =>
        obtain ⟨z, hz, rfl, htr⟩ := hrel
        by_cases k0 : 0 < z.size
        · have d1 : decide ((0 : Int) < (z.size : Int)) = true := by rw [decide_eq_true_eq]; omega
          have k1 : z.size - 1 < z.size := by omega
          have i0 : (1 : Int) ≤ (z.size : Int) := by omega
          have F := last_out k1
          by_cases h32 : z[z.size - 1].toNat = 32
          · have t1 : ((z[z.size - 1].toNat : Int) == 32) = true := by rw [beq_iff_eq]; omega
            have e0 : z[z.size - 1] = 32 := UInt8.toNat_inj.1 h32
            rw [F, e0, trimZ_snoc] at htr
            have TR := hide htr
            have hsz : (z.extract 0 (z.size - 1)).size = z.size - 1 := by rw [ByteArray.size_extract]; omega
            have HZ := hide hsz
            clear htr F e0 h32 hsz
            go_wp2
            exact ⟨⟨z.extract 0 (z.size - 1), by rw [unhide HZ]; omega, rfl, unhide TR⟩, by show (z.extract 0 (z.size - 1)).size < z.size; rw [unhide HZ]; omega⟩
          · have t1 : ((z[z.size - 1].toNat : Int) == 32) = false := by rw [beq_eq_false_iff_ne]; omega
            have TZ : Hid (z.data.toList = trimL s.data.toList) := by
              show _ = _
              rw [← htr]
              have := trimZ_no (z.extract 0 (z.size - 1)).data.toList (b := z[z.size - 1]) (fun e => h32 (by rw [e]; rfl))
              rw [← F] at this
              exact this.symm
            clear htr F h32
            go_wp2
            go_ret
            exact ⟨by rw [← unhide TZ]; rfl, rfl⟩
        · have d1 : decide ((0 : Int) < (z.size : Int)) = false := by rw [decide_eq_false_iff_not]; omega
          have zn : z.data.toList = [] := List.eq_nil_of_length_eq_zero (by show z.size = 0; omega)
          have TZ : Hid (z.data.toList = trimL s.data.toList) := by
            show _ = _
            rw [← htr, zn]
            rfl
          clear htr zn
          go_wp2
          go_ret
          exact ⟨by rw [← unhide TZ]; rfl, rfl⟩
end Go.Proofs.YtmkjocamknhcbaaDoor
