/- Several texts in one. -/
import Derived.Test.YtihdgfihdecalaaGreatDoorFlagA
namespace Go.Proofs.YtihdgfihdecalaaGreatDoor
open Go.RowKit
open Plain
set_option linter.unusedVariables false

namespace Plain
theorem seg_ne {l : List UInt8} {a i : Nat} (h : a < i) (hi : i ≤ l.length) : seg l a i ≠ [] := by
  intro e
  have : (seg l a i).length = 0 := by rw [e]; rfl
  unfold seg at this
  rw [List.length_drop, List.length_take] at this
  omega
end Plain

set_option maxHeartbeats 2000000 in
set_option maxRecDepth 100000 in
theorem l07Line_any (s : ByteArray) (A : Nat) (w : World) (hs : s.size ≤ 1048576) (hA : A < s.size) :
    Calls Tryz.prog 62 #[.string s, .int .i64 A] w fun e w' => (∃ i, A ≤ i ∧ (∀ b ∈ seg s.data.toList A i, b ≠ 10) ∧ ((i < s.size ∧ s.data.toList[i]? = some 10 ∧ e = .returned (.tuple #[.string (s.extract A i), .int .i64 ((i + 1 : Nat) : Int)])) ∨ (i = s.size ∧ e = .returned (.tuple #[.string (s.extract A i), .int .i64 (s.size : Int)])))) ∧ w' = w := by
  have d0 : decide ((s.size : Int) ≤ (A : Int)) = false := by rw [decide_eq_false_iff_not]; omega
  go_enter Tryz.func62, Tryz.ntmps62
  go_wp2
  go_loop [6] (fun i => ∃ k : Nat, A ≤ k ∧ k ≤ s.size ∧ i = .int .i64 k ∧ ∀ b ∈ seg s.data.toList A k, b ≠ 10) (fun i => s.size - (intOf i).toNat)
  case atStart => exact ⟨A, Nat.le_refl _, by omega, rfl, by rw [seg_same]; intro x hx; cases hx⟩
  case round =>
    obtain ⟨k, hAk, hk, rfl, hno⟩ := hrel
    by_cases hlt : k < s.size
    · have hb := byte_at hlt
      by_cases h10 : s[k].toNat = 10
      · have t0 : ((s[k].toNat : Int) == 10) = true := by rw [beq_iff_eq]; omega
        have e0 : s[k] = 10 := UInt8.toNat_inj.1 h10
        rw [e0] at hb
        have N := hide hno
        have HB := hide hb
        have i1 : (A : Int) ≤ (k : Int) := by omega
        have i2 : (k : Int) ≤ (s.size : Int) := by omega
        clear hno hb e0 h10
        go_wp2
        go_ret2
        exact ⟨⟨k, hAk, unhide N, .inl ⟨hlt, by simpa using unhide HB, rfl⟩⟩, rfl⟩
      · have t0 : ((s[k].toNat : Int) == 10) = false := by rw [beq_eq_false_iff_ne]; omega
        have NX : Hid (∀ b ∈ seg s.data.toList A (k + 1), b ≠ 10) := fun y hy => by
          rw [seg_succ hAk hb] at hy
          rcases List.mem_append.1 hy with hy | hy
          · exact hno y hy
          · simp at hy
            rw [hy]
            exact fun e => h10 (by rw [e]; rfl)
        clear hno hb h10
        go_wp2
        exact ⟨⟨k + 1, by omega, by omega, by go_num, unhide NX⟩, by simp [intOf]; omega⟩
    · have e : k = s.size := by omega
      subst e
      have N := hide hno
      have i1 : (A : Int) ≤ (s.size : Int) := by omega
      clear hno
      go_wp2
      go_ret2
      exact ⟨⟨s.size, hAk, unhide N, .inr ⟨rfl, rfl⟩⟩, rfl⟩
theorem l07Line_none (s : ByteArray) (A : Nat) (w : World) (hs : s.size ≤ 1048576) (hA : s.size ≤ A) :
    Calls Tryz.prog 62 #[.string s, .int .i64 A] w fun e w' => e = .returned (.tuple #[.string ⟨#[]⟩, .int .i64 (-1)]) ∧ w' = w := by
  have d0 : decide ((s.size : Int) ≤ (A : Int)) = true := by rw [decide_eq_true_eq]; omega
  go_enter Tryz.func62, Tryz.ntmps62
  go_wp2
  go_ret2
  exact ⟨rfl, rfl⟩

namespace Plain
theorem line_cut {l : List UInt8} {a i : Nat} (h : a ≤ i) (hi : l[i]? = some 10) : l.drop a = seg l a i ++ 10 :: l.drop (i + 1) := by
  rw [drop_seg h, drop_eq hi]
theorem line_end {l : List UInt8} {a : Nat} (h : a ≤ l.length) : l.drop a = seg l a l.length := by
  rw [drop_seg h, List.drop_length, List.append_nil]
theorem cut_size {s : ByteArray} {a i : Nat} (h : a ≤ i) (hi : i ≤ s.size) : (s.extract a i).size = i - a := by rw [ByteArray.size_extract]; omega
theorem cut_full {s : ByteArray} {a i : Nat} (h : a < i) (hi : i ≤ s.size) : (s.extract a i).toList.isEmpty = false := by
  rw [ByteArray.toList_eq]
  have := cut_size (s := s) (Nat.le_of_lt h) hi
  cases hl : (s.extract a i).data.toList with
  | nil =>
    have h2 : (s.extract a i).data.toList.length = 0 := by rw [hl]; rfl
    have h3 : (s.extract a i).size = 0 := h2
    omega
  | cons x r => rfl
theorem cut_none (s : ByteArray) (a : Nat) : s.extract a a = ⟨#[]⟩ := by
  rw [cut_bytes]
  simp
end Plain

end Go.Proofs.YtihdgfihdecalaaGreatDoor

namespace Go.Proofs.YtihdgfihdecalaaGreatDoor
open Go.RowKit
open Plain
set_option linter.unusedVariables false

namespace Plain
theorem head_stop (name : List UInt8) (r : List (List UInt8)) : headIn name ([] :: r) = ([], false) := by rw [headIn, if_pos rfl]
theorem head_hit {name p : List UInt8} {r : List (List UInt8)} (hp : p ≠ []) (h : name.length < p.length ∧ (p.take name.length).map lowB = name.map lowB ∧ p[name.length]? = some 58) : headIn name (p :: r) = (trimL (p.drop (name.length + 1)), true) := by
  rw [headIn, if_neg hp, if_pos h]
theorem head_miss {name p : List UInt8} {r : List (List UInt8)} (hp : p ≠ []) (h : ¬ (name.length < p.length ∧ (p.take name.length).map lowB = name.map lowB ∧ p[name.length]? = some 58)) : headIn name (p :: r) = headIn name r := by
  rw [headIn, if_neg hp, if_neg h]
theorem head_end (name : List UInt8) : headIn name (cutsL 10 []) = ([], false) := head_stop name []
end Plain

namespace Plain
theorem ext_head (u : ByteArray) (n : Nat) : (u.extract 0 n).data.toList = u.data.toList.take n := by
  rw [Lib.extract_data]; simp
theorem ext_tail (u : ByteArray) (n : Nat) : (u.extract n u.size).data.toList = u.data.toList.drop n := by
  rw [Lib.extract_data, List.take_of_length_le (by rw [List.length_drop]; exact Nat.le_refl _)]
theorem ext_line (s : ByteArray) (a i : Nat) : (s.extract a i).data.toList = seg s.data.toList a i := by
  rw [Lib.extract_data, seg, List.drop_take]
end Plain

set_option maxHeartbeats 4000000 in
set_option maxRecDepth 100000 in
theorem spec_HeadOf_any (s name : ByteArray) (w : World) (hs : s.size ≤ 1048576) (hn : name.size ≤ 1048576) :
    Calls Tryz.prog 46 #[.string s, .string name] w fun e w' => e = .returned (.tuple #[.string ⟨(headL s.data.toList name.data.toList).1.toArray⟩, .bool (headL s.data.toList name.data.toList).2]) ∧ Below w.heap.size w w' := by
  have HL : Hid (s.data.toList.length = s.size) := rfl
  go_enter Tryz.func46, Tryz.ntmps46
  go_wp2
  go_loopw [6] (fun p wr => ∃ A : Nat, A ≤ s.size ∧ p = .int .i64 A ∧ headL s.data.toList name.data.toList = headIn name.data.toList (cutsL 10 (s.data.toList.drop A)) ∧ Below w.heap.size w wr) (fun p _ => s.size - (intOf p).toNat)
  case atStart => exact ⟨0, Nat.zero_le _, rfl, rfl, Below.refl _ _⟩
  case round =>
    obtain ⟨A, hA, rfl, hhd, hbel⟩ := hrel
    have BW := hide hbel
    clear hbel
    by_cases hlt : A < s.size
    · have Q := hide (l07Line_any s A wr hs hlt)
      have HD := hide hhd
      clear hhd
      go_wp2_with fail
      refine (unhide Q).mono ?_
      rintro e w1 ⟨⟨i, hAi, hno, h⟩, hw1⟩
      subst w1
      rcases h with ⟨hi, h10, rfl⟩ | ⟨rfl, rfl⟩
      · have LC := hide (line_cut hAi h10)
        have d1 : decide (((i + 1 : Nat) : Int) < 0) = false := by rw [decide_eq_false_iff_not]; omega
        by_cases he : A = i
        · subst he
          have V : Hid (headL s.data.toList name.data.toList = ([], false)) := by
            show _ = _
            rw [unhide HD, unhide LC, seg_same, cuts_at _ _ (by intro b hb; cases hb), head_stop]
          rw [cut_none]
          clear hno h10 LC HD Q
          go_wp2
          go_ret2
          exact ⟨by rw [unhide V]; rfl, unhide BW⟩
        · have z := cut_full (s := s) (show A < i by omega) (Nat.le_of_lt hi)
          have hp := seg_ne (l := s.data.toList) (show A < i by omega) (by rw [unhide HL]; omega)
          have E := unhide HD
          rw [unhide LC, cuts_at _ _ hno, ← ext_line] at E
          rw [← ext_line] at hp
          have hus : (s.extract A i).size ≤ 1048576 := by rw [ByteArray.size_extract]; omega
          generalize s.extract A i = u at *
          have HIT := hide (fun h => E.trans (head_hit hp h))
          have MISS := hide (fun h => E.trans (head_miss hp h))
          clear hno h10 LC HD Q E hp
          have N := hide (l06Low_any name)
          by_cases k1 : name.size < u.size
          · have c1 : decide ((name.size : Int) < (u.size : Int)) = true := by rw [decide_eq_true_eq]; omega
            have L1 := hide (fun W => l06Low_any (u.extract 0 name.size) W (by rw [ByteArray.size_extract]; omega))
            rw [ext_head] at L1
            have i1 : (name.size : Int) ≤ (u.size : Int) := by omega
            by_cases k2 : (u.data.toList.take name.size).map lowB = name.data.toList.map lowB
            · rw [k2] at L1
              have hb := byte_at k1
              by_cases k3 : u[name.size].toNat = 58
              · have t3 : ((u[name.size].toNat : Int) == 58) = true := by rw [beq_iff_eq]; omega
                have V := hide (unhide HIT ⟨k1, k2, by rw [show name.data.toList.length = name.size from rfl, hb]; exact congrArg some (UInt8.toNat_inj.1 k3)⟩)
                have TQ := hide (fun W => l07Trim_any (u.extract (name.size + 1) u.size) W (by rw [ByteArray.size_extract]; omega))
                rw [ext_tail] at TQ
                have i2 : (name.size : Int) + 1 ≤ (u.size : Int) := by omega
                generalize (⟨(name.data.toList.map lowB).toArray⟩ : ByteArray) = NL at *
                clear k2 hb k3 HIT MISS
                go_wp2_with fail
                refine (unhide L1 wr).mono ?_
                rintro e w2 ⟨rfl, hb2⟩
                have B2 := hide ((unhide BW).trans (hb2.mono (unhide BW).size))
                clear hb2
                go_wp2_with fail
                refine (unhide N w2 hn).mono ?_
                rintro e w3 ⟨rfl, hb3⟩
                have B3 := hide ((unhide B2).trans (hb3.mono (unhide B2).size))
                clear hb3
                go_wp2_with fail
                refine (unhide TQ w3).mono ?_
                rintro e w4 ⟨rfl, hw4⟩
                subst w4
                go_wp2
                go_ret2
                exact ⟨by rw [unhide V]; rfl, unhide B3⟩
              · have t3 : ((u[name.size].toNat : Int) == 58) = false := by rw [beq_eq_false_iff_ne]; omega
                have V := hide (unhide MISS (fun h => k3 (by have := h.2.2; rw [show name.data.toList.length = name.size from rfl, hb] at this; have e : u[name.size] = 58 := (by simpa using this); rw [e]; rfl)))
                generalize (⟨(name.data.toList.map lowB).toArray⟩ : ByteArray) = NL at *
                clear k2 hb k3 HIT MISS
                go_wp2_with fail
                refine (unhide L1 wr).mono ?_
                rintro e w2 ⟨rfl, hb2⟩
                have B2 := hide ((unhide BW).trans (hb2.mono (unhide BW).size))
                clear hb2
                go_wp2_with fail
                refine (unhide N w2 hn).mono ?_
                rintro e w3 ⟨rfl, hb3⟩
                have B3 := hide ((unhide B2).trans (hb3.mono (unhide B2).size))
                clear hb3
                go_wp2
                exact ⟨⟨i + 1, by omega, by go_num, unhide V, unhide B3⟩, by simp [intOf]; omega⟩
            · have V := hide (unhide MISS (fun h => k2 h.2.1))
              have hne : (⟨((u.data.toList.take name.size).map lowB).toArray⟩ : ByteArray) ≠ ⟨(name.data.toList.map lowB).toArray⟩ := fun h => k2 (by have := congrArg (fun b : ByteArray => b.data.toList) h; simpa using this)
              generalize (⟨(name.data.toList.map lowB).toArray⟩ : ByteArray) = NL at *
              generalize (⟨((u.data.toList.take name.size).map lowB).toArray⟩ : ByteArray) = UL at *
              have t2 : (UL.toList == NL.toList) = false := by
                rw [beq_eq_false_iff_ne, ByteArray.toList_eq, ByteArray.toList_eq]
                exact fun h => hne (ByteArray.ext (Array.toList_inj.1 h))
              clear k2 hne HIT MISS
              go_wp2_with fail
              refine (unhide L1 wr).mono ?_
              rintro e w2 ⟨rfl, hb2⟩
              have B2 := hide ((unhide BW).trans (hb2.mono (unhide BW).size))
              clear hb2
              go_wp2_with fail
              refine (unhide N w2 hn).mono ?_
              rintro e w3 ⟨rfl, hb3⟩
              have B3 := hide ((unhide B2).trans (hb3.mono (unhide B2).size))
              clear hb3
              go_wp2
              exact ⟨⟨i + 1, by omega, by go_num, unhide V, unhide B3⟩, by simp [intOf]; omega⟩
          · have c1 : decide ((name.size : Int) < (u.size : Int)) = false := by rw [decide_eq_false_iff_not]; omega
            have V := hide (unhide MISS (fun h => k1 h.1))
            clear HIT MISS
            go_wp2
            exact ⟨⟨i + 1, by omega, by go_num, unhide V, unhide BW⟩, by simp [intOf]; omega⟩
      · have z := cut_full (s := s) hlt (Nat.le_refl _)
        have d1 : decide ((s.size : Int) < 0) = false := by rw [decide_eq_false_iff_not]; omega
        have hp := seg_ne (l := s.data.toList) hlt (by rw [unhide HL]; omega)
        have E := unhide HD
        rw [line_end (show A ≤ s.data.toList.length from hA), show s.data.toList.length = s.size from rfl, cuts_one _ hno, ← ext_line] at E
        rw [← ext_line] at hp
        have hus : (s.extract A s.size).size ≤ 1048576 := by rw [ByteArray.size_extract]; omega
        have DN : Hid (headIn name.data.toList [] = headIn name.data.toList (cutsL 10 (s.data.toList.drop s.size))) := by
          show _ = _
          rw [List.drop_eq_nil_of_le (show s.data.toList.length ≤ s.size from Nat.le_refl _), head_end]
          rfl
        generalize s.extract A s.size = u at *
        have HIT := hide (fun h => E.trans (head_hit hp h))
        have MISS := hide (fun h => (E.trans (head_miss hp h)).trans (unhide DN))
        clear hno HD Q E hp DN
        have N := hide (l06Low_any name)
        by_cases k1 : name.size < u.size
        · have c1 : decide ((name.size : Int) < (u.size : Int)) = true := by rw [decide_eq_true_eq]; omega
          have L1 := hide (fun W => l06Low_any (u.extract 0 name.size) W (by rw [ByteArray.size_extract]; omega))
          rw [ext_head] at L1
          have i1 : (name.size : Int) ≤ (u.size : Int) := by omega
          by_cases k2 : (u.data.toList.take name.size).map lowB = name.data.toList.map lowB
          · rw [k2] at L1
            have hb := byte_at k1
            by_cases k3 : u[name.size].toNat = 58
            · have t3 : ((u[name.size].toNat : Int) == 58) = true := by rw [beq_iff_eq]; omega
              have V := hide (unhide HIT ⟨k1, k2, by rw [show name.data.toList.length = name.size from rfl, hb]; exact congrArg some (UInt8.toNat_inj.1 k3)⟩)
              have TQ := hide (fun W => l07Trim_any (u.extract (name.size + 1) u.size) W (by rw [ByteArray.size_extract]; omega))
              rw [ext_tail] at TQ
              have i2 : (name.size : Int) + 1 ≤ (u.size : Int) := by omega
              generalize (⟨(name.data.toList.map lowB).toArray⟩ : ByteArray) = NL at *
              clear k2 hb k3 HIT MISS
              go_wp2_with fail
              refine (unhide L1 wr).mono ?_
              rintro e w2 ⟨rfl, hb2⟩
              have B2 := hide ((unhide BW).trans (hb2.mono (unhide BW).size))
              clear hb2
              go_wp2_with fail
              refine (unhide N w2 hn).mono ?_
              rintro e w3 ⟨rfl, hb3⟩
              have B3 := hide ((unhide B2).trans (hb3.mono (unhide B2).size))
              clear hb3
              go_wp2_with fail
              refine (unhide TQ w3).mono ?_
              rintro e w4 ⟨rfl, hw4⟩
              subst w4
              go_wp2
              go_ret2
              exact ⟨by rw [unhide V]; rfl, unhide B3⟩
            · have t3 : ((u[name.size].toNat : Int) == 58) = false := by rw [beq_eq_false_iff_ne]; omega
              have V := hide (unhide MISS (fun h => k3 (by have := h.2.2; rw [show name.data.toList.length = name.size from rfl, hb] at this; have e : u[name.size] = 58 := (by simpa using this); rw [e]; rfl)))
              generalize (⟨(name.data.toList.map lowB).toArray⟩ : ByteArray) = NL at *
              clear k2 hb k3 HIT MISS
              go_wp2_with fail
              refine (unhide L1 wr).mono ?_
              rintro e w2 ⟨rfl, hb2⟩
              have B2 := hide ((unhide BW).trans (hb2.mono (unhide BW).size))
              clear hb2
              go_wp2_with fail
              refine (unhide N w2 hn).mono ?_
              rintro e w3 ⟨rfl, hb3⟩
              have B3 := hide ((unhide B2).trans (hb3.mono (unhide B2).size))
              clear hb3
              go_wp2
              exact ⟨⟨s.size, by omega, by go_num, unhide V, unhide B3⟩, by simp [intOf]; omega⟩
          · have V := hide (unhide MISS (fun h => k2 h.2.1))
            have hne : (⟨((u.data.toList.take name.size).map lowB).toArray⟩ : ByteArray) ≠ ⟨(name.data.toList.map lowB).toArray⟩ := fun h => k2 (by have := congrArg (fun b : ByteArray => b.data.toList) h; simpa using this)
            generalize (⟨(name.data.toList.map lowB).toArray⟩ : ByteArray) = NL at *
            generalize (⟨((u.data.toList.take name.size).map lowB).toArray⟩ : ByteArray) = UL at *
            have t2 : (UL.toList == NL.toList) = false := by
              rw [beq_eq_false_iff_ne, ByteArray.toList_eq, ByteArray.toList_eq]
              exact fun h => hne (ByteArray.ext (Array.toList_inj.1 h))
            clear k2 hne HIT MISS
            go_wp2_with fail
            refine (unhide L1 wr).mono ?_
            rintro e w2 ⟨rfl, hb2⟩
            have B2 := hide ((unhide BW).trans (hb2.mono (unhide BW).size))
            clear hb2
            go_wp2_with fail
            refine (unhide N w2 hn).mono ?_
            rintro e w3 ⟨rfl, hb3⟩
            have B3 := hide ((unhide B2).trans (hb3.mono (unhide B2).size))
            clear hb3
            go_wp2
            exact ⟨⟨s.size, by omega, by go_num, unhide V, unhide B3⟩, by simp [intOf]; omega⟩
        · have c1 : decide ((name.size : Int) < (u.size : Int)) = false := by rw [decide_eq_false_iff_not]; omega
          have V := hide (unhide MISS (fun h => k1 h.1))
          clear HIT MISS
          go_wp2
          exact ⟨⟨s.size, by omega, by go_num, unhide V, unhide BW⟩, by simp [intOf]; omega⟩
    · have Q := hide (l07Line_none s A wr hs (by omega))
      rw [List.drop_eq_nil_of_le (show s.data.toList.length ≤ A by rw [unhide HL]; omega), head_end] at hhd
      have V := hide hhd
      clear hhd
      go_wp2_with fail
      refine (unhide Q).mono ?_
      rintro e w1 ⟨rfl, hw1⟩
      subst w1
      go_wp2
      go_ret2
      exact ⟨by rw [unhide V]; rfl, unhide BW⟩
end Go.Proofs.YtihdgfihdecalaaGreatDoor

namespace Go.Proofs.YtihdgfihdecalaaGreatDoor
open Go.RowKit
open Plain
set_option linter.unusedVariables false

namespace Plain
def reL : List UInt8 := [114, 101, 58]
def fwL : List UInt8 := [102, 119, 100, 58]
theorem take_short {u x : List UInt8} {n : Nat} (h : u.length < n) (hx : x.length = n) : u.take n ≠ x := fun e => by
  have := congrArg List.length e
  rw [List.length_take, hx] at this
  omega
theorem base_re {f : Nat} {u : List UInt8} (h : u.take 3 = reL) : baseF (f + 1) u = baseF f (trimL (u.drop 3)) := by rw [baseF]; exact if_pos h
theorem base_fw {f : Nat} {u : List UInt8} (h0 : u.take 3 ≠ reL) (h : u.take 4 = fwL) : baseF (f + 1) u = baseF f (trimL (u.drop 4)) := by rw [baseF]; exact (if_neg h0).trans (if_pos h)
theorem base_no {f : Nat} {u : List UInt8} (h0 : u.take 3 ≠ reL) (h : u.take 4 ≠ fwL) : baseF f u = u := by
  cases f with
  | zero => rfl
  | succ f => rw [baseF]; exact (if_neg h0).trans (if_neg h)
theorem head_test {u : ByteArray} {n : Nat} {x : List UInt8} (h : u.data.toList.take n = x) : ((u.extract 0 n).toList == x) = true := by rw [ByteArray.toList_eq, ext_head, beq_iff_eq]; exact h
theorem head_test_no {u : ByteArray} {n : Nat} {x : List UInt8} (h : u.data.toList.take n ≠ x) : ((u.extract 0 n).toList == x) = false := by rw [ByteArray.toList_eq, ext_head, beq_eq_false_iff_ne]; exact h
end Plain

set_option maxHeartbeats 4000000 in
set_option maxRecDepth 100000 in
theorem spec_BaseSubject_any (s : ByteArray) (w : World) (hs : s.size ≤ 1048576) :
    Calls Tryz.prog 47 #[.string s] w fun e w' => e = .returned (.string ⟨(baseL s.data.toList).toArray⟩) ∧ Below w.heap.size w w' := by
  have hlen : (trimL s.data.toList).length ≤ s.size := trimL_len s.data.toList
  have Q1 := hide (l07Trim_any s w hs)
  have hz : (⟨(trimL s.data.toList).toArray⟩ : ByteArray).size ≤ 1048576 := by show (trimL s.data.toList).toArray.size ≤ 1048576; simp; omega
  have Q2 := hide (l06Low_any ⟨(trimL s.data.toList).toArray⟩ w hz)
  rw [show (⟨(trimL s.data.toList).toArray⟩ : ByteArray).data.toList = trimL s.data.toList from rfl] at Q2
  have ST : Hid (baseF s.size ((trimL s.data.toList).map lowB) = baseL s.data.toList) := rfl
  have hl2 : ((trimL s.data.toList).map lowB).length ≤ s.size := by rw [List.length_map]; exact hlen
  generalize (trimL s.data.toList).map lowB = L at *
  clear hlen hz
  go_enter Tryz.func47, Tryz.ntmps47
  go_wp2_with fail
  refine (unhide Q1).mono ?_
  rintro e w1 ⟨rfl, hw1⟩
  subst w1
  go_wp2_with fail
  refine (unhide Q2).mono ?_
  rintro e w1 ⟨rfl, hb1⟩
  have BW := hide hb1
  clear hb1 Q1 Q2
  go_wp2
  go_loop [0] (fun v => ∃ (u : ByteArray) (f : Nat), v = .string u ∧ u.size ≤ f ∧ f ≤ s.size ∧ baseF f u.data.toList = baseL s.data.toList) (fun v => strSize v)
  case atStart => exact ⟨⟨L.toArray⟩, s.size, rfl, by show L.toArray.size ≤ s.size; simpa using hl2, Nat.le_refl _, unhide ST⟩
  case round =>
    obtain ⟨u, f, rfl, huf, hfs, hbf⟩ := hrel
    clear hl2
    have UL : Hid (u.data.toList.length = u.size) := rfl
    by_cases k3 : 3 ≤ u.size
    · have c1 : decide ((3 : Int) ≤ (u.size : Int)) = true := by rw [decide_eq_true_eq]; omega
      by_cases hre : u.data.toList.take 3 = reL
      · have t1 : ((u.extract 0 3).toList == [114, 101, 58]) = true := head_test hre
        obtain ⟨f', rfl⟩ : ∃ f', f = f' + 1 := ⟨f - 1, by omega⟩
        rw [base_re hre] at hbf
        have TQ := hide (l07Trim_any (u.extract 3 u.size) w1 (by rw [ByteArray.size_extract]; omega))
        rw [ext_tail] at TQ
        have hlen := trimL_len (u.data.toList.drop 3)
        rw [List.length_drop, unhide UL] at hlen
        have NX := hide hbf
        generalize trimL (u.data.toList.drop 3) = T at *
        clear hbf hre
        go_wp2_with fail
        refine (unhide TQ).mono ?_
        rintro e w2 ⟨rfl, hw2⟩
        subst w2
        go_wp2
        exact ⟨⟨⟨T.toArray⟩, f', rfl, by show T.toArray.size ≤ f'; simp; omega, by omega, unhide NX⟩, by show T.toArray.size < u.size; simp; omega⟩
      · have t1 : ((u.extract 0 3).toList == [114, 101, 58]) = false := head_test_no hre
        by_cases k4 : 4 ≤ u.size
        · have c2 : decide ((4 : Int) ≤ (u.size : Int)) = true := by rw [decide_eq_true_eq]; omega
          by_cases hfw : u.data.toList.take 4 = fwL
          · have t2 : ((u.extract 0 4).toList == [102, 119, 100, 58]) = true := head_test hfw
            obtain ⟨f', rfl⟩ : ∃ f', f = f' + 1 := ⟨f - 1, by omega⟩
            rw [base_fw hre hfw] at hbf
            have TQ := hide (l07Trim_any (u.extract 4 u.size) w1 (by rw [ByteArray.size_extract]; omega))
            rw [ext_tail] at TQ
            have hlen := trimL_len (u.data.toList.drop 4)
            rw [List.length_drop, unhide UL] at hlen
            have NX := hide hbf
            generalize trimL (u.data.toList.drop 4) = T at *
            clear hbf hre hfw
            go_wp2_with fail
            refine (unhide TQ).mono ?_
            rintro e w2 ⟨rfl, hw2⟩
            subst w2
            go_wp2
            exact ⟨⟨⟨T.toArray⟩, f', rfl, by show T.toArray.size ≤ f'; simp; omega, by omega, unhide NX⟩, by show T.toArray.size < u.size; simp; omega⟩
          · have t2 : ((u.extract 0 4).toList == [102, 119, 100, 58]) = false := head_test_no hfw
            rw [base_no hre hfw] at hbf
            have V := hide hbf
            clear hbf hre hfw
            go_wp2
            go_ret
            exact ⟨by rw [← unhide V]; rfl, unhide BW⟩
        · have c2 : decide ((4 : Int) ≤ (u.size : Int)) = false := by rw [decide_eq_false_iff_not]; omega
          rw [base_no hre (take_short (by rw [unhide UL]; omega) rfl)] at hbf
          have V := hide hbf
          clear hbf hre
          go_wp2
          go_ret
          exact ⟨by rw [← unhide V]; rfl, unhide BW⟩
    · have c1 : decide ((3 : Int) ≤ (u.size : Int)) = false := by rw [decide_eq_false_iff_not]; omega
      have c2 : decide ((4 : Int) ≤ (u.size : Int)) = false := by rw [decide_eq_false_iff_not]; omega
      rw [base_no (take_short (by rw [unhide UL]; omega) rfl) (take_short (by rw [unhide UL]; omega) rfl)] at hbf
      have V := hide hbf
      clear hbf
      go_wp2
      go_ret
      exact ⟨by rw [← unhide V]; rfl, unhide BW⟩
end Go.Proofs.YtihdgfihdecalaaGreatDoor
