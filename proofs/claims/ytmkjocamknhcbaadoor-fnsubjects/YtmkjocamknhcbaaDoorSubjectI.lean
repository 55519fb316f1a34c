/- Mails: the program's withoutBlanks, BaseSubject. -/
import Derived.Test.YtmkjocamknhcbaaDoorTrimPlain
import Derived.Test.YtmkjocamknhcbaaDoorLowI
import Derived.Test.YtmkjocamknhcbaaDoorShelf
namespace Go.Proofs.YtmkjocamknhcbaaDoor
open Go.RowKit
open Plain
set_option linter.unusedVariables false

theorem blanks_any (s : ByteArray) (w : World) (hs : s.size ≤ 1048576) :
    Calls Tryd.prog 41 #[.string s] w fun e w' => e = .returned (.string ⟨(trimL s.data.toList).toArray⟩) ∧ Below w.heap.size w w' := by
  have Q := hide (Tryd.strings_Trim_one s 32 (by decide) w (by omega))
  rw [trimB_is] at Q
  go_enter Tryd.func41, Tryd.ntmps41
  go_wp2_with fail
  refine (unhide Q).mono ?_
  rintro e w1 ⟨rfl, hw⟩
  have B : Hid (Below w.heap.size w w1) := by
    show Below w.heap.size w w1
    rcases hw with rfl | rfl
    · exact Below.refl _ _
    · exact (Below.refl _ _).drew
  clear hw
  go_wp2
  go_ret
  exact ⟨rfl, unhide B⟩

theorem cutRe_any (u : ByteArray) (w : World) : Calls Tryd.prog 42 #[.string u, .string ⟨#[114, 101, 58]⟩] w fun e w' => e = .returned (.tuple #[.string ⟨(cutRe u.data.toList).toArray⟩, .bool (hasRe u.data.toList)]) ∧ w' = w := Tryd.strings_CutPrefix u ⟨#[114, 101, 58]⟩ w
theorem cutFw_any (u : ByteArray) (w : World) : Calls Tryd.prog 42 #[.string ⟨(cutRe u.data.toList).toArray⟩, .string ⟨#[102, 119, 100, 58]⟩] w fun e w' => e = .returned (.tuple #[.string ⟨(cutFw u.data.toList).toArray⟩, .bool (hasFw u.data.toList)]) ∧ w' = w := Tryd.strings_CutPrefix ⟨(cutRe u.data.toList).toArray⟩ ⟨#[102, 119, 100, 58]⟩ w

set_option maxHeartbeats 4000000 in
set_option maxRecDepth 100000 in
theorem impl_BaseSubject_any (s : ByteArray) (w : World) (hs : s.size ≤ 1048576) :
    Calls Tryd.prog 22 #[.string s] w fun e w' => e = .returned (.string ⟨(baseL s.data.toList).toArray⟩) ∧ Below w.heap.size w w' := by
  have Q1 := hide (small_any s w hs)
  have hz : (⟨(s.data.toList.map lowB).toArray⟩ : ByteArray).size ≤ 1048576 := by show (s.data.toList.map lowB).toArray.size ≤ 1048576; simpa using hs
  have Q2 := hide (fun W => blanks_any ⟨(s.data.toList.map lowB).toArray⟩ W hz)
  rw [show (⟨(s.data.toList.map lowB).toArray⟩ : ByteArray).data.toList = s.data.toList.map lowB from rfl, trimL_low] at Q2
  have ST : Hid (baseF s.size ((trimL s.data.toList).map lowB) = baseL s.data.toList) := rfl
  have HL : Hid (((trimL s.data.toList).map lowB).length ≤ s.size) := by
    show ((trimL s.data.toList).map lowB).length ≤ s.size
    rw [List.length_map]
    exact trimL_len s.data.toList
  generalize (trimL s.data.toList).map lowB = L at *
  generalize (⟨(s.data.toList.map lowB).toArray⟩ : ByteArray) = M at *
  clear hz
  go_enter Tryd.func22, Tryd.ntmps22
  go_wp2_with fail
  refine (unhide Q1).mono ?_
  rintro e w1 ⟨rfl, hb1⟩
  have B1 := hide hb1
  clear hb1
  go_wp2_with fail
  refine (unhide Q2 _).mono ?_
  rintro e w2 ⟨rfl, hb2⟩
  have B2 := hide ((unhide B1).trans (hb2.mono (unhide B1).size))
  clear hb2 Q1 Q2
  go_wp2
  go_loopw [3] (fun v wr => ∃ (u : ByteArray) (f : Nat), v = .string u ∧ u.size ≤ f ∧ f ≤ s.size ∧ baseF f u.data.toList = baseL s.data.toList ∧ Below w.heap.size w wr) (fun v _ => strSize v)
  case atStart => exact ⟨⟨L.toArray⟩, s.size, rfl, by show L.toArray.size ≤ s.size; simpa using unhide HL, Nat.le_refl _, unhide ST, unhide B2⟩
  case round =>
    obtain ⟨u, f, rfl, huf, hfs, hbf, hbw⟩ := hrel
    have BW := hide hbw
    have huf2 : u.data.toList.length ≤ f := huf
    have C1 := hide (cutRe_any u)
    have C2 := hide (cutFw_any u)
    have HE := hide (fun h1 h2 => round_end (f := f) (u := u.data.toList) h1 h2)
    have HM := hide (fun h => round_more (f := f) (u := u.data.toList) huf2 h)
    have FL := cutFw_len u.data.toList
    have hu : u.data.toList.length = u.size := rfl
    have FZ : (⟨(cutFw u.data.toList).toArray⟩ : ByteArray).size ≤ 1048576 := by show (cutFw u.data.toList).length ≤ 1048576; omega
    have Q3 := hide (fun W => blanks_any ⟨(cutFw u.data.toList).toArray⟩ W FZ)
    rw [show (⟨(cutFw u.data.toList).toArray⟩ : ByteArray).data.toList = cutFw u.data.toList from rfl] at Q3
    have TL := hide (trimL_len (cutFw u.data.toList))
    have BF := hide hbf
    clear hbw FZ FL hbf
    generalize (⟨(cutRe u.data.toList).toArray⟩ : ByteArray) = U1 at *
    generalize cutFw u.data.toList = R at *
    generalize hasRe u.data.toList = a at *
    generalize hasFw u.data.toList = b at *
    go_wp2_with fail
    refine (unhide C1 _).mono ?_
    rintro e w3 ⟨rfl, hw3⟩
    subst w3
    go_wp2_with fail
    refine (unhide C2 _).mono ?_
    rintro e w3 ⟨rfl, hw3⟩
    subst w3
    have fin : ∀ (h : (a || b) = true) (W : World), Below w.heap.size w W → (∃ (u' : ByteArray) (f' : Nat), Value.string ⟨(trimL R).toArray⟩ = .string u' ∧ u'.size ≤ f' ∧ f' ≤ s.size ∧ baseF f' u'.data.toList = baseL s.data.toList ∧ Below w.heap.size w W) ∧ strSize (.string ⟨(trimL R).toArray⟩) < strSize (.string u) := by
      intro h W hb
      obtain ⟨f', h1, h2, h3, h4⟩ := unhide HM h
      have tl := unhide TL
      refine ⟨⟨⟨(trimL R).toArray⟩, f', rfl, ?_, by omega, ?_, hb⟩, ?_⟩
      · show (trimL R).length ≤ f'
        omega
      · show baseF f' (trimL R) = _
        rw [← h4, unhide BF]
      · show (trimL R).length < u.size
        omega
    have FIN := hide fin
    clear fin hu huf huf2 hfs
    cases a with
    | true =>
      go_wp2_with fail
      refine (unhide Q3 _).mono ?_
      rintro e w4 ⟨rfl, hb4⟩
      have B4 := hide ((unhide BW).trans (hb4.mono (unhide BW).size))
      clear hb4
      go_wp2
      go_roundw
      case rel => exact (unhide FIN rfl _ (unhide B4)).1
      case measure => exact (unhide FIN rfl _ (unhide B4)).2
    | false =>
      cases b with
      | true =>
        go_wp2_with fail
        refine (unhide Q3 _).mono ?_
        rintro e w4 ⟨rfl, hb4⟩
        have B4 := hide ((unhide BW).trans (hb4.mono (unhide BW).size))
        clear hb4
        go_wp2
        go_roundw
        case rel => exact (unhide FIN rfl _ (unhide B4)).1
        case measure => exact (unhide FIN rfl _ (unhide B4)).2
      | false =>
        have V := hide ((unhide HE rfl rfl).symm.trans (unhide BF))
        go_wp2
        go_ret
        exact ⟨by rw [← unhide V]; rfl, unhide BW⟩
end Go.Proofs.YtmkjocamknhcbaaDoor
