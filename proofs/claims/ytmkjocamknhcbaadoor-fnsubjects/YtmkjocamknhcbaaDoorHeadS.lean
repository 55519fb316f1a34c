/- Mails: the specification's HeadOf. -/
import Derived.Test.YtmkjocamknhcbaaDoorLineS
namespace Go.Proofs.YtmkjocamknhcbaaDoor
open Go.RowKit
open Plain
set_option linter.unusedVariables false

namespace Plain
theorem head_stop (name : List UInt8) (r : List (List UInt8)) : headIn name ([] :: r) = ([], false) := by rw [headIn, if_pos rfl]
theorem head_hit {name p : List UInt8} {r : List (List UInt8)} (hp : p ≠ []) (h : name.length < p.length ∧ (p.take name.length).map lowB = name.map lowB ∧ p[name.length]? = some 58) : headIn name (p :: r) = (trimL (p.drop (name.length + 1)), true) := by
  rw [headIn, if_neg hp, if_pos h]
theorem head_miss {name p : List UInt8} {r : List (List UInt8)} (hp : p ≠ []) (h : ¬ (name.length < p.length ∧ (p.take name.length).map lowB = name.map lowB ∧ p[name.length]? = some 58)) : headIn name (p :: r) = headIn name r := by
  rw [headIn, if_neg hp, if_neg h]
theorem head_end (name : List UInt8) : headIn name (cutsL 10 []) = ([], false) := head_stop name []
end Plain

namespace Plain
theorem ext_head (u : ByteArray) (n : Nat) : (u.extract 0 n).data.toList = u.data.toList.take n := by
  rw [Lib.extract_data]; simp
theorem ext_tail (u : ByteArray) (n : Nat) : (u.extract n u.size).data.toList = u.data.toList.drop n := by
  rw [Lib.extract_data, List.take_of_length_le (by rw [List.length_drop]; exact Nat.le_refl _)]
theorem ext_line (s : ByteArray) (a i : Nat) : (s.extract a i).data.toList = seg s.data.toList a i := by
  rw [Lib.extract_data, seg, List.drop_take]
end Plain

set_option maxHeartbeats 4000000 in
set_option maxRecDepth 100000 in
theorem spec_HeadOf_any (s name : ByteArray) (w : World) (hs : s.size ≤ 1048576) (hn : name.size ≤ 1048576) :
    Calls Tryd.prog 17 #[.string s, .string name] w fun e w' => e = .returned (.tuple #[.string ⟨(headL s.data.toList name.data.toList).1.toArray⟩, .bool (headL s.data.toList name.data.toList).2]) ∧ Below w.heap.size w w' := by
  have HL : Hid (s.data.toList.length = s.size) := rfl
  go_enter Tryd.func17, Tryd.ntmps17
  go_wp2
  go_loopw [6] (fun p wr => ∃ A : Nat, A ≤ s.size ∧ p = .int .i64 A ∧ headL s.data.toList name.data.toList = headIn name.data.toList (cutsL 10 (s.data.toList.drop A)) ∧ Below w.heap.size w wr) (fun p _ => s.size - (intOf p).toNat)
  case atStart => exact ⟨0, Nat.zero_le _, rfl, rfl, Below.refl _ _⟩
  case round =>
    obtain ⟨A, hA, rfl, hhd, hbel⟩ := hrel
    have BW := hide hbel
    clear hbel
    by_cases hlt : A < s.size
    · have Q := hide (l07Line_any s A wr hs hlt)
      have HD := hide hhd
      clear hhd
      go_wp2_with fail
      refine (unhide Q).mono ?_
      rintro e w1 ⟨⟨i, hAi, hno, h⟩, hw1⟩
      subst w1
      rcases h with ⟨hi, h10, rfl⟩ | ⟨rfl, rfl⟩
      · have LC := hide (line_cut hAi h10)
        have d1 : decide (((i + 1 : Nat) : Int) < 0) = false := by rw [decide_eq_false_iff_not]; omega
        by_cases he : A = i
        · subst he
          have V : Hid (headL s.data.toList name.data.toList = ([], false)) := by
            show _ = _
            rw [unhide HD, unhide LC, seg_same, cuts_at _ _ (by intro b hb; cases hb), head_stop]
          rw [cut_none]
          clear hno h10 LC HD Q
          go_wp2
          go_ret2
          exact ⟨by rw [unhide V]; rfl, unhide BW⟩
        · have z := cut_full (s := s) (show A < i by omega) (Nat.le_of_lt hi)
          have hp := seg_ne (l := s.data.toList) (show A < i by omega) (by rw [unhide HL]; omega)
          have E := unhide HD
          rw [unhide LC, cuts_at _ _ hno, ← ext_line] at E
          rw [← ext_line] at hp
          have hus : (s.extract A i).size ≤ 1048576 := by rw [ByteArray.size_extract]; omega
          generalize s.extract A i = u at *
          have HIT := hide (fun h => E.trans (head_hit hp h))
          have MISS := hide (fun h => E.trans (head_miss hp h))
          clear hno h10 LC HD Q E hp
          have N := hide (l06Low_any name)
          by_cases k1 : name.size < u.size
          · have c1 : decide ((name.size : Int) < (u.size : Int)) = true := by rw [decide_eq_true_eq]; omega
            have L1 := hide (fun W => l06Low_any (u.extract 0 name.size) W (by rw [ByteArray.size_extract]; omega))
            rw [ext_head] at L1
            have i1 : (name.size : Int) ≤ (u.size : Int) := by omega
            by_cases k2 : (u.data.toList.take name.size).map lowB = name.data.toList.map lowB
            · rw [k2] at L1
              have hb := byte_at k1
              by_cases k3 : u[name.size].toNat = 58
              · have t3 : ((u[name.size].toNat : Int) == 58) = true := by rw [beq_iff_eq]; omega
                have V := hide (unhide HIT ⟨k1, k2, by rw [show name.data.toList.length = name.size from rfl, hb]; exact congrArg some (UInt8.toNat_inj.1 k3)⟩)
                have TQ := hide (fun W => l07Trim_any (u.extract (name.size + 1) u.size) W (by rw [ByteArray.size_extract]; omega))
                rw [ext_tail] at TQ
                have i2 : (name.size : Int) + 1 ≤ (u.size : Int) := by omega
                generalize (⟨(name.data.toList.map lowB).toArray⟩ : ByteArray) = NL at *
                clear k2 hb k3 HIT MISS
                go_wp2_with fail
                refine (unhide L1 wr).mono ?_
                rintro e w2 ⟨rfl, hb2⟩
                have B2 := hide ((unhide BW).trans (hb2.mono (unhide BW).size))
                clear hb2
                go_wp2_with fail
                refine (unhide N w2 hn).mono ?_
                rintro e w3 ⟨rfl, hb3⟩
                have B3 := hide ((unhide B2).trans (hb3.mono (unhide B2).size))
                clear hb3
                go_wp2_with fail
                refine (unhide TQ w3).mono ?_
                rintro e w4 ⟨rfl, hw4⟩
                subst w4
                go_wp2
                go_ret2
                exact ⟨by rw [unhide V]; rfl, unhide B3⟩
              · have t3 : ((u[name.size].toNat : Int) == 58) = false := by rw [beq_eq_false_iff_ne]; omega
                have V := hide (unhide MISS (fun h => k3 (by have := h.2.2; rw [show name.data.toList.length = name.size from rfl, hb] at this; have e : u[name.size] = 58 := (by simpa using this); rw [e]; rfl)))
                generalize (⟨(name.data.toList.map lowB).toArray⟩ : ByteArray) = NL at *
                clear k2 hb k3 HIT MISS
                go_wp2_with fail
                refine (unhide L1 wr).mono ?_
                rintro e w2 ⟨rfl, hb2⟩
                have B2 := hide ((unhide BW).trans (hb2.mono (unhide BW).size))
                clear hb2
                go_wp2_with fail
                refine (unhide N w2 hn).mono ?_
                rintro e w3 ⟨rfl, hb3⟩
                have B3 := hide ((unhide B2).trans (hb3.mono (unhide B2).size))
                clear hb3
                go_wp2
                exact ⟨⟨i + 1, by omega, by go_num, unhide V, unhide B3⟩, by simp [intOf]; omega⟩
            · have V := hide (unhide MISS (fun h => k2 h.2.1))
              have hne : (⟨((u.data.toList.take name.size).map lowB).toArray⟩ : ByteArray) ≠ ⟨(name.data.toList.map lowB).toArray⟩ := fun h => k2 (by have := congrArg (fun b : ByteArray => b.data.toList) h; simpa using this)
              generalize (⟨(name.data.toList.map lowB).toArray⟩ : ByteArray) = NL at *
              generalize (⟨((u.data.toList.take name.size).map lowB).toArray⟩ : ByteArray) = UL at *
              have t2 : (UL.toList == NL.toList) = false := by
                rw [beq_eq_false_iff_ne, ByteArray.toList_eq, ByteArray.toList_eq]
                exact fun h => hne (ByteArray.ext (Array.toList_inj.1 h))
              clear k2 hne HIT MISS
              go_wp2_with fail
              refine (unhide L1 wr).mono ?_
              rintro e w2 ⟨rfl, hb2⟩
              have B2 := hide ((unhide BW).trans (hb2.mono (unhide BW).size))
              clear hb2
              go_wp2_with fail
              refine (unhide N w2 hn).mono ?_
              rintro e w3 ⟨rfl, hb3⟩
              have B3 := hide ((unhide B2).trans (hb3.mono (unhide B2).size))
              clear hb3
              go_wp2
              exact ⟨⟨i + 1, by omega, by go_num, unhide V, unhide B3⟩, by simp [intOf]; omega⟩
          · have c1 : decide ((name.size : Int) < (u.size : Int)) = false := by rw [decide_eq_false_iff_not]; omega
            have V := hide (unhide MISS (fun h => k1 h.1))
            clear HIT MISS
            go_wp2
            exact ⟨⟨i + 1, by omega, by go_num, unhide V, unhide BW⟩, by simp [intOf]; omega⟩
      · have z := cut_full (s := s) hlt (Nat.le_refl _)
        have d1 : decide ((s.size : Int) < 0) = false := by rw [decide_eq_false_iff_not]; omega
        have hp := seg_ne (l := s.data.toList) hlt (by rw [unhide HL]; omega)
        have E := unhide HD
        rw [line_end (show A ≤ s.data.toList.length from hA), show s.data.toList.length = s.size from rfl, cuts_one _ hno, ← ext_line] at E
        rw [← ext_line] at hp
        have hus : (s.extract A s.size).size ≤ 1048576 := by rw [ByteArray.size_extract]; omega
        have DN : Hid (headIn name.data.toList [] = headIn name.data.toList (cutsL 10 (s.data.toList.drop s.size))) := by
          show _ = _
          rw [List.drop_eq_nil_of_le (show s.data.toList.length ≤ s.size from Nat.le_refl _), head_end]
          rfl
        generalize s.extract A s.size = u at *
        have HIT := hide (fun h => E.trans (head_hit hp h))
        have MISS := hide (fun h => (E.trans (head_miss hp h)).trans (unhide DN))
        clear hno HD Q E hp DN
        have N := hide (l06Low_any name)
        by_cases k1 : name.size < u.size
        · have c1 : decide ((name.size : Int) < (u.size : Int)) = true := by rw [decide_eq_true_eq]; omega
          have L1 := hide (fun W => l06Low_any (u.extract 0 name.size) W (by rw [ByteArray.size_extract]; omega))
          rw [ext_head] at L1
          have i1 : (name.size : Int) ≤ (u.size : Int) := by omega
          by_cases k2 : (u.data.toList.take name.size).map lowB = name.data.toList.map lowB
          · rw [k2] at L1
            have hb := byte_at k1
            by_cases k3 : u[name.size].toNat = 58
            · have t3 : ((u[name.size].toNat : Int) == 58) = true := by rw [beq_iff_eq]; omega
              have V := hide (unhide HIT ⟨k1, k2, by rw [show name.data.toList.length = name.size from rfl, hb]; exact congrArg some (UInt8.toNat_inj.1 k3)⟩)
              have TQ := hide (fun W => l07Trim_any (u.extract (name.size + 1) u.size) W (by rw [ByteArray.size_extract]; omega))
              rw [ext_tail] at TQ
              have i2 : (name.size : Int) + 1 ≤ (u.size : Int) := by omega
              generalize (⟨(name.data.toList.map lowB).toArray⟩ : ByteArray) = NL at *
              clear k2 hb k3 HIT MISS
              go_wp2_with fail
              refine (unhide L1 wr).mono ?_
              rintro e w2 ⟨rfl, hb2⟩
              have B2 := hide ((unhide BW).trans (hb2.mono (unhide BW).size))
              clear hb2
              go_wp2_with fail
              refine (unhide N w2 hn).mono ?_
              rintro e w3 ⟨rfl, hb3⟩
              have B3 := hide ((unhide B2).trans (hb3.mono (unhide B2).size))
              clear hb3
              go_wp2_with fail
              refine (unhide TQ w3).mono ?_
              rintro e w4 ⟨rfl, hw4⟩
              subst w4
              go_wp2
              go_ret2
              exact ⟨by rw [unhide V]; rfl, unhide B3⟩
            · have t3 : ((u[name.size].toNat : Int) == 58) = false := by rw [beq_eq_false_iff_ne]; omega
              have V := hide (unhide MISS (fun h => k3 (by have := h.2.2; rw [show name.data.toList.length = name.size from rfl, hb] at this; have e : u[name.size] = 58 := (by simpa using this); rw [e]; rfl)))
              generalize (⟨(name.data.toList.map lowB).toArray⟩ : ByteArray) = NL at *
              clear k2 hb k3 HIT MISS
              go_wp2_with fail
              refine (unhide L1 wr).mono ?_
              rintro e w2 ⟨rfl, hb2⟩
              have B2 := hide ((unhide BW).trans (hb2.mono (unhide BW).size))
              clear hb2
              go_wp2_with fail
              refine (unhide N w2 hn).mono ?_
              rintro e w3 ⟨rfl, hb3⟩
              have B3 := hide ((unhide B2).trans (hb3.mono (unhide B2).size))
              clear hb3
              go_wp2
              exact ⟨⟨s.size, by omega, by go_num, unhide V, unhide B3⟩, by simp [intOf]; omega⟩
          · have V := hide (unhide MISS (fun h => k2 h.2.1))
            have hne : (⟨((u.data.toList.take name.size).map lowB).toArray⟩ : ByteArray) ≠ ⟨(name.data.toList.map lowB).toArray⟩ := fun h => k2 (by have := congrArg (fun b : ByteArray => b.data.toList) h; simpa using this)
            generalize (⟨(name.data.toList.map lowB).toArray⟩ : ByteArray) = NL at *
            generalize (⟨((u.data.toList.take name.size).map lowB).toArray⟩ : ByteArray) = UL at *
            have t2 : (UL.toList == NL.toList) = false := by
              rw [beq_eq_false_iff_ne, ByteArray.toList_eq, ByteArray.toList_eq]
              exact fun h => hne (ByteArray.ext (Array.toList_inj.1 h))
            clear k2 hne HIT MISS
            go_wp2_with fail
            refine (unhide L1 wr).mono ?_
            rintro e w2 ⟨rfl, hb2⟩
            have B2 := hide ((unhide BW).trans (hb2.mono (unhide BW).size))
            clear hb2
            go_wp2_with fail
            refine (unhide N w2 hn).mono ?_
            rintro e w3 ⟨rfl, hb3⟩
            have B3 := hide ((unhide B2).trans (hb3.mono (unhide B2).size))
            clear hb3
            go_wp2
            exact ⟨⟨s.size, by omega, by go_num, unhide V, unhide B3⟩, by simp [intOf]; omega⟩
        · have c1 : decide ((name.size : Int) < (u.size : Int)) = false := by rw [decide_eq_false_iff_not]; omega
          have V := hide (unhide MISS (fun h => k1 h.1))
          clear HIT MISS
          go_wp2
          exact ⟨⟨s.size, by omega, by go_num, unhide V, unhide BW⟩, by simp [intOf]; omega⟩
    · have Q := hide (l07Line_none s A wr hs (by omega))
      rw [List.drop_eq_nil_of_le (show s.data.toList.length ≤ A by rw [unhide HL]; omega), head_end] at hhd
      have V := hide hhd
      clear hhd
      go_wp2_with fail
      refine (unhide Q).mono ?_
      rintro e w1 ⟨rfl, hw1⟩
      subst w1
      go_wp2
      go_ret2
      exact ⟨by rw [unhide V]; rfl, unhide BW⟩
end Go.Proofs.YtmkjocamknhcbaaDoor
