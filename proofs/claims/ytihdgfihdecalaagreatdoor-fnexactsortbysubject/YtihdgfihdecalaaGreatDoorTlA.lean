/- Several texts in one. -/
import Derived.Test.YtihdgfihdecalaaGreatDoorLhA
import Derived.Lib.Strings
import Derived.Lib.TrimByte
import Derived.Test.YtihdgfihdecalaaGreatDoorFlagA
import Derived.Test.YtihdgfihdecalaaGreatDoorShelf
namespace Go.Proofs.YtihdgfihdecalaaGreatDoor.Plain
open Go.RowKit
set_option linter.unusedVariables false

theorem trimZ_cons (b : UInt8) (r : List UInt8) : trimZ (b :: r) = if trimZ r = [] ∧ b = 32 then [] else b :: trimZ r := by
  unfold trimZ
  rw [List.reverse_cons, List.dropWhile_append]
  cases h : List.dropWhile isBlank r.reverse with
  | nil =>
    simp only [List.isEmpty_nil, List.reverse_nil, if_true]
    by_cases hb : b = 32
    · subst hb
      rw [if_pos (by simp)]
      rfl
    · rw [List.dropWhile_cons, if_neg (by simpa [isBlank] using hb)]
      simp [hb]
  | cons x l => simp
theorem trim_both (l : List UInt8) : trimA (trimZ l) = trimZ (trimA l) := by
  induction l with
  | nil => rfl
  | cons b r ih =>
    by_cases hb : b = 32
    · subst hb
      rw [trimA_cons, ← ih, trimZ_cons]
      split
      · rename_i h
        rw [h.1]
      · rfl
    · rw [trimA_no r hb, trimZ_cons, if_neg (fun h => hb h.2), trimA_no _ hb]
theorem trimB_is (l : List UInt8) : Lib.trimB l 32 = trimL l := trim_both l
theorem trimZ_twice (l : List UInt8) : trimZ (trimZ l) = trimZ l := by
  induction l with
  | nil => rfl
  | cons b r ih =>
    by_cases h : trimZ r = [] ∧ b = 32
    · rw [trimZ_cons, if_pos h]
      rfl
    · rw [trimZ_cons b r, if_neg h, trimZ_cons, ih, if_neg h]
theorem trimL_Z (l : List UInt8) : trimL (trimZ l) = trimL l := by
  unfold trimL
  rw [← trim_both, ← trim_both, trimZ_twice]
theorem low_blank (b : UInt8) : lowB b = 32 ↔ b = 32 := by
  constructor
  · intro h
    by_cases hb : 65 ≤ b.toNat ∧ b.toNat ≤ 90
    · rw [lowB_in hb.1 hb.2] at h
      have := congrArg UInt8.toNat h
      rw [UInt8.toNat_ofNat'] at this
      have e : (32 : UInt8).toNat = 32 := rfl
      omega
    · rwa [lowB_no hb] at h
  · rintro rfl
    rfl
theorem trimA_low (l : List UInt8) : trimA (l.map lowB) = (trimA l).map lowB := by
  induction l with
  | nil => rfl
  | cons b r ih =>
    by_cases hb : b = 32
    · subst hb
      rw [trimA_cons, ← ih]
      rfl
    · rw [trimA_no r hb, List.map_cons, trimA_no _ (fun h => hb ((low_blank b).1 h))]
theorem trimZ_low (l : List UInt8) : trimZ (l.map lowB) = (trimZ l).map lowB := by
  induction l with
  | nil => rfl
  | cons b r ih =>
    rw [List.map_cons, trimZ_cons, trimZ_cons, ih]
    by_cases h : trimZ r = [] ∧ b = 32
    · rw [if_pos h, if_pos ⟨by rw [h.1]; rfl, by rw [h.2]; rfl⟩]
      rfl
    · rw [if_neg h, if_neg (fun x => h ⟨by simpa using x.1, (low_blank b).1 x.2⟩)]
      rfl
theorem trimL_low (l : List UInt8) : trimL (l.map lowB) = (trimL l).map lowB := by
  unfold trimL
  rw [trimA_low, trimZ_low]
/-- A prefix, as the library tells it. -/
theorem pre_is (u x : List UInt8) : Lib.hasPrefix u x = decide (u.take x.length = x) := by
  unfold Lib.hasPrefix
  rw [Bool.eq_iff_iff, List.isPrefixOf_iff_prefix, decide_eq_true_eq, List.prefix_iff_eq_take]
  exact ⟨fun h => h.symm, fun h => h.symm⟩
theorem pre_yes {u x : List UInt8} (h : u.take x.length = x) : Lib.hasPrefix u x = true ∧ Lib.trimPrefix u x = u.drop x.length := by
  have e : Lib.hasPrefix u x = true := by rw [pre_is]; exact decide_eq_true h
  exact ⟨e, by unfold Lib.trimPrefix; rw [if_pos e]⟩
theorem pre_no {u x : List UInt8} (h : u.take x.length ≠ x) : Lib.hasPrefix u x = false ∧ Lib.trimPrefix u x = u := by
  have e : Lib.hasPrefix u x = false := by rw [pre_is]; exact decide_eq_false h
  exact ⟨e, by unfold Lib.trimPrefix; rw [if_neg (by rw [e]; decide)]⟩
theorem fw_out {r : List UInt8} (h : r.take 4 = fwL) : r = 102 :: 119 :: 100 :: 58 :: r.drop 4 := by
  have := List.take_append_drop 4 r
  rw [h] at this
  exact this.symm
/-- What answers and is handed on at once. -/
theorem base_both {f : Nat} {u : List UInt8} (h1 : u.take 3 = reL) (h2 : (u.drop 3).take 4 = fwL) : baseF (f + 2) u = baseF f (trimL ((u.drop 3).drop 4)) := by
  rw [base_re h1]
  have e := fw_out h2
  generalize (u.drop 3).drop 4 = y at *
  have n1 : (102 : UInt8) ≠ 32 := by decide
  have n2 : (119 : UInt8) ≠ 32 := by decide
  have n3 : (100 : UInt8) ≠ 32 := by decide
  have n4 : (58 : UInt8) ≠ 32 := by decide
  have e2 : trimL (u.drop 3) = 102 :: 119 :: 100 :: 58 :: trimZ y := by
    rw [e]
    unfold trimL
    rw [trimA_no _ n1, trimZ_cons, if_neg (fun h => n1 h.2), trimZ_cons, if_neg (fun h => n2 h.2), trimZ_cons, if_neg (fun h => n3 h.2), trimZ_cons, if_neg (fun h => n4 h.2)]
  rw [e2, base_fw (by show _ ≠ reL; unfold reL; simp) (by rfl)]
  show baseF f (trimL (trimZ y)) = _
  rw [trimL_Z]
/-- One round of the program's: what it cuts. -/
def cutRe (u : List UInt8) : List UInt8 := Lib.trimPrefix u reL
def cutFw (u : List UInt8) : List UInt8 := Lib.trimPrefix (cutRe u) fwL
def hasRe (u : List UInt8) : Bool := Lib.hasPrefix u reL
def hasFw (u : List UInt8) : Bool := Lib.hasPrefix (cutRe u) fwL
theorem round_end {f : Nat} {u : List UInt8} (h1 : hasRe u = false) (h2 : hasFw u = false) : baseF f u = u := by
  have k1 : u.take 3 ≠ reL := fun h => by rw [show hasRe u = true from (pre_yes (x := reL) h).1] at h1; cases h1
  have k2 : cutRe u = u := (pre_no (x := reL) k1).2
  have k3 : u.take 4 ≠ fwL := fun h => by
    have : hasFw u = true := by unfold hasFw; rw [k2]; exact (pre_yes (x := fwL) h).1
    rw [this] at h2
    cases h2
  exact base_no k1 k3
theorem take_len {u x : List UInt8} (h : u.take x.length = x) : x.length ≤ u.length := by
  have := congrArg List.length h
  rw [List.length_take] at this
  omega
theorem round_more {f : Nat} {u : List UInt8} (hf : u.length ≤ f) (h : (hasRe u || hasFw u) = true) :
    ∃ f', (cutFw u).length ≤ f' ∧ f' ≤ f ∧ (cutFw u).length < u.length ∧ baseF f u = baseF f' (trimL (cutFw u)) := by
  by_cases k1 : u.take 3 = reL
  · have e1 : cutRe u = u.drop 3 := (pre_yes (x := reL) k1).2
    have l1 : 3 ≤ u.length := take_len (x := reL) k1
    by_cases k2 : (u.drop 3).take 4 = fwL
    · have e2 : cutFw u = (u.drop 3).drop 4 := by unfold cutFw; rw [e1]; exact (pre_yes (x := fwL) k2).2
      have l2 : 4 ≤ (u.drop 3).length := take_len (x := fwL) k2
      rw [List.length_drop] at l2
      refine ⟨f - 2, ?_, by omega, ?_, ?_⟩
      · rw [e2]; simp; omega
      · rw [e2]; simp; omega
      · rw [e2, ← base_both k1 k2]
        congr 1
        omega
    · have e2 : cutFw u = u.drop 3 := by unfold cutFw; rw [e1]; exact (pre_no (x := fwL) k2).2
      refine ⟨f - 1, ?_, by omega, ?_, ?_⟩
      · rw [e2]; simp; omega
      · rw [e2]; simp; omega
      · rw [e2, ← base_re k1]
        congr 1
        omega
  · have e0 : hasRe u = false := (pre_no (x := reL) k1).1
    have e1 : cutRe u = u := (pre_no (x := reL) k1).2
    rw [e0, Bool.false_or] at h
    have k2 : u.take 4 = fwL := by
      unfold hasFw at h
      rw [e1, pre_is, decide_eq_true_eq] at h
      exact h
    have e2 : cutFw u = u.drop 4 := by unfold cutFw; rw [e1]; exact (pre_yes (x := fwL) k2).2
    have l2 : 4 ≤ u.length := take_len (x := fwL) k2
    refine ⟨f - 1, ?_, by omega, ?_, ?_⟩
    · rw [e2]; simp; omega
    · rw [e2]; simp; omega
    · rw [e2, ← base_fw k1 k2]
      congr 1
      omega
theorem cutFw_len (u : List UInt8) : (cutFw u).length ≤ u.length := by
  have h : ∀ a b : List UInt8, (Lib.trimPrefix a b).length ≤ a.length := by
    intro a b
    unfold Lib.trimPrefix
    split
    · simp
    · exact Nat.le_refl _
  exact Nat.le_trans (h _ _) (h _ _)
end Go.Proofs.YtihdgfihdecalaaGreatDoor.Plain

namespace Go.Proofs.YtihdgfihdecalaaGreatDoor
open Go.RowKit
open Plain
set_option linter.unusedVariables false

set_option maxHeartbeats 2000000 in
set_option maxRecDepth 100000 in
theorem small_any (s : ByteArray) (w : World) (hs : s.size ≤ 1048576) :
    Calls Tryz.prog 92 #[.string s] w fun e w' => e = .returned (.string ⟨(s.data.toList.map lowB).toArray⟩) ∧ Below w.heap.size w w' := by
  obtain ⟨C, w5, hconv, hcell, hfz, hb5⟩ := low_bytes w s
  have R0 : Hid (LowRow s.data.toList s.size w.heap.size 0 w5) := ⟨fun j hj => by rw [low_zero]; exact hcell j hj, hfz⟩
  have B0 := hide hb5
  have HL : Hid (s.data.toList.length = s.size) := rfl
  clear hcell hfz hb5
  go_enter Tryz.func92, Tryz.ntmps92
  go_wp2
  clear hconv
  go_loopw [10] (fun i wr => ∃ k : Nat, k ≤ s.size ∧ i = .int .i64 k ∧ LowRow s.data.toList s.size w.heap.size k wr ∧ Below w.heap.size w wr) (fun i _ => s.size - (intOf i).toNat)
  case atStart => exact ⟨0, Nat.zero_le _, rfl, unhide R0, unhide B0⟩
  case round =>
    obtain ⟨k, hk, rfl, hrow, hbel⟩ := hrel
    by_cases hlt : k < s.size
    · have ck := hrow.cell k hlt
      have fk := hrow.open_ k hlt
      rw [low_here] at ck
      have PUT := hide (hrow.put hlt)
      have ON := hide (fun h => hrow.on h)
      have IN := hide (fun a b => lowB_in (b := s.data.toList.getD k 0) a b)
      have NO := hide (fun a => lowB_no (b := s.data.toList.getD k 0) a)
      have hx : (s.data.toList.getD k 0).toNat < 256 := UInt8.toNat_lt _
      have BW := hide hbel
      clear hrow hbel
      generalize s.data.toList.getD k 0 = x at *
      have i1 : (0 : Int) ≤ (k : Int) := by omega
      have i2 : (k : Int) < (s.size : Int) := by omega
      by_cases h1 : 65 ≤ x.toNat
      · have d1 : decide ((65 : Int) ≤ (x.toNat : Int)) = true := by rw [decide_eq_true_eq]; omega
        by_cases h2 : x.toNat ≤ 90
        · have d2 : decide ((x.toNat : Int) ≤ 90) = true := by rw [decide_eq_true_eq]; omega
          have E : Hid ((lowB x).toNat = x.toNat + 32) := by
            show (lowB x).toNat = _
            rw [unhide IN h1 h2, UInt8.toNat_ofNat']
            omega
          have P := hide (unhide PUT)
          rw [unhide E] at P
          have BS := hide ((unhide BW).setCell (p := ⟨w.heap.size, k, none⟩) (Nat.le_refl _) (.int .u8 ((x.toNat + 32 : Nat) : Int)))
          have x1 : IntKind.u8.wrap ((x.toNat : Int) - 65) = (x.toNat : Int) - 65 := by rw [IntKind.wrap_u8]; omega
          have x2 : IntKind.u8.wrap ((x.toNat : Int) - 65 + 97) = (x.toNat : Int) + 32 := by rw [IntKind.wrap_u8]; omega
          clear PUT
          go_wp2
          exact ⟨⟨k + 1, by omega, by go_num, by simpa using unhide P, by simpa using unhide BS⟩, by simp [intOf]; omega⟩
        · have d2 : decide ((x.toNat : Int) ≤ 90) = false := by rw [decide_eq_false_iff_not]; omega
          have P := hide (unhide ON (unhide NO (fun h => h2 h.2)))
          go_wp2
          exact ⟨⟨k + 1, by omega, by go_num, unhide P, unhide BW⟩, by simp [intOf]; omega⟩
      · have d1 : decide ((65 : Int) ≤ (x.toNat : Int)) = false := by rw [decide_eq_false_iff_not]; omega
        have P := hide (unhide ON (unhide NO (fun h => h1 h.1)))
        go_wp2
        exact ⟨⟨k + 1, by omega, by go_num, unhide P, unhide BW⟩, by simp [intOf]; omega⟩
    · have e : k = s.size := by omega
      subst e
      have CB := (hrow.back (C := C) (unhide HL))
      have BW := hide hbel
      clear hrow hbel
      go_wp2
      go_ret
      exact ⟨rfl, unhide BW⟩
end Go.Proofs.YtihdgfihdecalaaGreatDoor

namespace Go.Proofs.YtihdgfihdecalaaGreatDoor
open Go.RowKit
open Plain
set_option linter.unusedVariables false

theorem blanks_any (s : ByteArray) (w : World) (hs : s.size ≤ 1048576) :
    Calls Tryz.prog 95 #[.string s] w fun e w' => e = .returned (.string ⟨(trimL s.data.toList).toArray⟩) ∧ Below w.heap.size w w' := by
  have Q := hide (Tryz.strings_Trim_one s 32 (by decide) w (by omega))
  rw [trimB_is] at Q
  go_enter Tryz.func95, Tryz.ntmps95
  go_wp2_with fail
  refine (unhide Q).mono ?_
  rintro e w1 ⟨rfl, hw⟩
  have B : Hid (Below w.heap.size w w1) := by
    show Below w.heap.size w w1
    rcases hw with rfl | rfl
    · exact Below.refl _ _
    · exact (Below.refl _ _).drew
  clear hw
  go_wp2
  go_ret
  exact ⟨rfl, unhide B⟩

theorem cutRe_any (u : ByteArray) (w : World) : Calls Tryz.prog 96 #[.string u, .string ⟨#[114, 101, 58]⟩] w fun e w' => e = .returned (.tuple #[.string ⟨(cutRe u.data.toList).toArray⟩, .bool (hasRe u.data.toList)]) ∧ w' = w := Tryz.strings_CutPrefix u ⟨#[114, 101, 58]⟩ w
theorem cutFw_any (u : ByteArray) (w : World) : Calls Tryz.prog 96 #[.string ⟨(cutRe u.data.toList).toArray⟩, .string ⟨#[102, 119, 100, 58]⟩] w fun e w' => e = .returned (.tuple #[.string ⟨(cutFw u.data.toList).toArray⟩, .bool (hasFw u.data.toList)]) ∧ w' = w := Tryz.strings_CutPrefix ⟨(cutRe u.data.toList).toArray⟩ ⟨#[102, 119, 100, 58]⟩ w

set_option maxHeartbeats 4000000 in
set_option maxRecDepth 100000 in
theorem impl_BaseSubject_any (s : ByteArray) (w : World) (hs : s.size ≤ 1048576) :
    Calls Tryz.prog 72 #[.string s] w fun e w' => e = .returned (.string ⟨(baseL s.data.toList).toArray⟩) ∧ Below w.heap.size w w' := by
  have Q1 := hide (small_any s w hs)
  have hz : (⟨(s.data.toList.map lowB).toArray⟩ : ByteArray).size ≤ 1048576 := by show (s.data.toList.map lowB).toArray.size ≤ 1048576; simpa using hs
  have Q2 := hide (fun W => blanks_any ⟨(s.data.toList.map lowB).toArray⟩ W hz)
  rw [show (⟨(s.data.toList.map lowB).toArray⟩ : ByteArray).data.toList = s.data.toList.map lowB from rfl, trimL_low] at Q2
  have ST : Hid (baseF s.size ((trimL s.data.toList).map lowB) = baseL s.data.toList) := rfl
  have HL : Hid (((trimL s.data.toList).map lowB).length ≤ s.size) := by
    show ((trimL s.data.toList).map lowB).length ≤ s.size
    rw [List.length_map]
    exact trimL_len s.data.toList
  generalize (trimL s.data.toList).map lowB = L at *
  generalize (⟨(s.data.toList.map lowB).toArray⟩ : ByteArray) = M at *
  clear hz
  go_enter Tryz.func72, Tryz.ntmps72
  go_wp2_with fail
  refine (unhide Q1).mono ?_
  rintro e w1 ⟨rfl, hb1⟩
  have B1 := hide hb1
  clear hb1
  go_wp2_with fail
  refine (unhide Q2 _).mono ?_
  rintro e w2 ⟨rfl, hb2⟩
  have B2 := hide ((unhide B1).trans (hb2.mono (unhide B1).size))
  clear hb2 Q1 Q2
  go_wp2
  go_loopw [3] (fun v wr => ∃ (u : ByteArray) (f : Nat), v = .string u ∧ u.size ≤ f ∧ f ≤ s.size ∧ baseF f u.data.toList = baseL s.data.toList ∧ Below w.heap.size w wr) (fun v _ => strSize v)
  case atStart => exact ⟨⟨L.toArray⟩, s.size, rfl, by show L.toArray.size ≤ s.size; simpa using unhide HL, Nat.le_refl _, unhide ST, unhide B2⟩
  case round =>
    obtain ⟨u, f, rfl, huf, hfs, hbf, hbw⟩ := hrel
    have BW := hide hbw
    have huf2 : u.data.toList.length ≤ f := huf
    have C1 := hide (cutRe_any u)
    have C2 := hide (cutFw_any u)
    have HE := hide (fun h1 h2 => round_end (f := f) (u := u.data.toList) h1 h2)
    have HM := hide (fun h => round_more (f := f) (u := u.data.toList) huf2 h)
    have FL := cutFw_len u.data.toList
    have hu : u.data.toList.length = u.size := rfl
    have FZ : (⟨(cutFw u.data.toList).toArray⟩ : ByteArray).size ≤ 1048576 := by show (cutFw u.data.toList).length ≤ 1048576; omega
    have Q3 := hide (fun W => blanks_any ⟨(cutFw u.data.toList).toArray⟩ W FZ)
    rw [show (⟨(cutFw u.data.toList).toArray⟩ : ByteArray).data.toList = cutFw u.data.toList from rfl] at Q3
    have TL := hide (trimL_len (cutFw u.data.toList))
    have BF := hide hbf
    clear hbw FZ FL hbf
    generalize (⟨(cutRe u.data.toList).toArray⟩ : ByteArray) = U1 at *
    generalize cutFw u.data.toList = R at *
    generalize hasRe u.data.toList = a at *
    generalize hasFw u.data.toList = b at *
    go_wp2_with fail
    refine (unhide C1 _).mono ?_
    rintro e w3 ⟨rfl, hw3⟩
    subst w3
    go_wp2_with fail
    refine (unhide C2 _).mono ?_
    rintro e w3 ⟨rfl, hw3⟩
    subst w3
    have fin : ∀ (h : (a || b) = true) (W : World), Below w.heap.size w W → (∃ (u' : ByteArray) (f' : Nat), Value.string ⟨(trimL R).toArray⟩ = .string u' ∧ u'.size ≤ f' ∧ f' ≤ s.size ∧ baseF f' u'.data.toList = baseL s.data.toList ∧ Below w.heap.size w W) ∧ strSize (.string ⟨(trimL R).toArray⟩) < strSize (.string u) := by
      intro h W hb
      obtain ⟨f', h1, h2, h3, h4⟩ := unhide HM h
      have tl := unhide TL
      refine ⟨⟨⟨(trimL R).toArray⟩, f', rfl, ?_, by omega, ?_, hb⟩, ?_⟩
      · show (trimL R).length ≤ f'
        omega
      · show baseF f' (trimL R) = _
        rw [← h4, unhide BF]
      · show (trimL R).length < u.size
        omega
    have FIN := hide fin
    clear fin hu huf huf2 hfs
    cases a with
    | true =>
      go_wp2_with fail
      refine (unhide Q3 _).mono ?_
      rintro e w4 ⟨rfl, hb4⟩
      have B4 := hide ((unhide BW).trans (hb4.mono (unhide BW).size))
      clear hb4
      go_wp2
      go_roundw
      case rel => exact (unhide FIN rfl _ (unhide B4)).1
      case measure => exact (unhide FIN rfl _ (unhide B4)).2
    | false =>
      cases b with
      | true =>
        go_wp2_with fail
        refine (unhide Q3 _).mono ?_
        rintro e w4 ⟨rfl, hb4⟩
        have B4 := hide ((unhide BW).trans (hb4.mono (unhide BW).size))
        clear hb4
        go_wp2
        go_roundw
        case rel => exact (unhide FIN rfl _ (unhide B4)).1
        case measure => exact (unhide FIN rfl _ (unhide B4)).2
      | false =>
        have V := hide ((unhide HE rfl rfl).symm.trans (unhide BF))
        go_wp2
        go_ret
        exact ⟨by rw [← unhide V]; rfl, unhide BW⟩
end Go.Proofs.YtihdgfihdecalaaGreatDoor
