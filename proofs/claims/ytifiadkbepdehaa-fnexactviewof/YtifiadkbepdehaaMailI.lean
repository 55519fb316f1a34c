/- Mails: the program's MailOk, cutMail. -/
import Derived.Test.YtifiadkbepdehaaRunePlain
import Derived.Test.YtifiadkbepdehaaFlagA
namespace Go.Proofs.Ytifiadkbepdehaa
open Go.RowKit
open Plain
set_option linter.unusedVariables false

namespace Plain
theorem all_over {t : List UInt8} {p d : Nat} (hp : p + d ≤ t.length) (ha : (t.take p).all (fun b => b != 0) = true) (hx : ∀ j, p ≤ j → j < p + d → t.getD j 0 ≠ 0) : (t.take (p + d)).all (fun b => b != 0) = true := by
  rw [List.take_add, List.all_append, ha, Bool.true_and, List.all_eq_true]
  intro b hb
  obtain ⟨k, hk, rfl⟩ := List.getElem_of_mem hb
  have hk2 : k < d := by have := hk; simp at this; omega
  have h3 := hx (p + k) (by omega) (by omega)
  rw [List.getD_eq_getElem?_getD, List.getElem?_eq_getElem (by omega)] at h3
  simpa using h3
theorem all_zero {t : List UInt8} {p : Nat} (hp : p < t.length) (h : t.getD p 0 = 0) : t.all (fun b => b != 0) = false := by
  refine all_no (k := p) ?_
  rw [List.getElem?_eq_getElem hp]
  rw [List.getD_eq_getElem?_getD, List.getElem?_eq_getElem hp] at h
  simpa using h
theorem mail_no {t : List UInt8} (h : t.all (fun b => b != 0) = false) : mailOkL t = false := by
  unfold mailOkL
  rw [h]
  rfl
theorem mail_in {t : List UInt8} (h : t.all (fun b => b != 0) = true) : mailOkL t = (decide (1 ≤ t.length) && decide (t.length ≤ 200)) := by
  unfold mailOkL
  rw [h]
  rfl
end Plain

set_option maxHeartbeats 2000000 in
set_option maxRecDepth 100000 in
theorem impl_MailOk_any (s : ByteArray) (w : World) (hs : s.size ≤ 1048576) :
    Calls Try.prog 95 #[.string s] w fun e w' => e = .returned (.bool (mailOkL s.data.toList)) ∧ Below w.heap.size w w' := by
  have BI : ∀ p, Hid (Below w.heap.size w (w.iter s p)) := fun p => (Below.refl _ w).alloc (Nat.le_refl _) _
  go_enter Try.func95, Try.ntmps95
  go_wp2
  go_loopw [4] (fun _ wr => ∃ p : Nat, p ≤ s.size ∧ wr = w.iter s p ∧ (s.data.toList.take p).all (fun b => b != 0) = true) (fun _ wr => s.size - wr.iterPos w.heap.size)
  case atStart => exact ⟨0, Nat.zero_le _, rfl, rfl⟩
  case round =>
    obtain ⟨p, hp, rfl, hall⟩ := hrel
    by_cases hlt : p < s.size
    · have hnx := fun ty => run_next_any (P := Try.prog) w s p ty hlt
      rcases rune_step s p hlt with ⟨hlo, hd⟩ | ⟨hhi, hd1, hsp⟩
      · rw [hd] at hnx
        simp only at hnx
        by_cases h0 : s.data.toList.getD p 0 = 0
        · have V := hide (mail_no (all_zero (t := s.data.toList) (show p < s.data.toList.length from hlt) h0))
          rw [h0] at hnx
          clear hall h0 hd hlo
          go_wp2
          go_ret
          exact ⟨by rw [unhide V]; rfl, unhide (BI _)⟩
        · have ST := hide (all_over (t := s.data.toList) (p := p) (d := 1) (show p + 1 ≤ s.size by omega) hall (fun j h1 h2 => by rw [show j = p by omega]; exact h0))
          have t0 : (((s.data.toList.getD p 0).toNat : Int) == 0) = false := by
            rw [beq_eq_false_iff_ne]
            intro e
            exact h0 (UInt8.toNat_inj.1 (by simpa using e))
          clear hall h0 hd hlo
          generalize (s.data.toList.getD p 0).toNat = x at *
          go_wp2
          go_roundw
          case rel => exact ⟨p + 1, by omega, rfl, unhide ST⟩
          case measure => simp only [World.iterPos_iter]; omega
      · have ST := hide (all_over (t := s.data.toList) (p := p) (d := (Utf8.decode s p).2) (by have := (hsp (p + (Utf8.decode s p).2 - 1) (by omega) (by omega)).1; show p + (Utf8.decode s p).2 ≤ s.size; omega) hall (fun j h1 h2 e => by have := (hsp j h1 h2).2; rw [e] at this; exact absurd this (by decide)))
        have hle : p + (Utf8.decode s p).2 ≤ s.size := by have := (hsp (p + (Utf8.decode s p).2 - 1) (by omega) (by omega)).1; omega
        clear hall hsp
        obtain ⟨r, hr⟩ : ∃ r, Utf8.decode s p = r := ⟨_, rfl⟩
        rw [hr] at hnx hhi hd1 ST hle
        clear hr
        obtain ⟨x, d⟩ := r
        simp only at hnx hhi hd1 ST hle
        have t0 : ((x : Int) == 0) = false := by rw [beq_eq_false_iff_ne]; omega
        go_wp2
        go_roundw
        case rel => exact ⟨p + d, by omega, rfl, unhide ST⟩
        case measure => simp only [World.iterPos_iter]; omega
    · have hnx := fun ty => run_next_end (P := Try.prog) w s p ty hlt
      rw [List.take_of_length_le (show s.data.toList.length ≤ p by show s.size ≤ p; omega)] at hall
      have V := hide (mail_in hall)
      rw [show s.data.toList.length = s.size from rfl] at V
      clear hall
      by_cases h1 : 1 ≤ s.size
      · have d1 : decide ((1 : Int) ≤ (s.size : Int)) = true := by rw [decide_eq_true_eq]; omega
        rw [decide_eq_true h1, Bool.true_and] at V
        by_cases h2 : s.size ≤ 200
        · have d2 : decide ((s.size : Int) ≤ 200) = true := by rw [decide_eq_true_eq]; omega
          rw [decide_eq_true h2] at V
          go_wp2
          go_ret
          exact ⟨by rw [unhide V]; rfl, unhide (BI _)⟩
        · have d2 : decide ((s.size : Int) ≤ 200) = false := by rw [decide_eq_false_iff_not]; omega
          rw [decide_eq_false h2] at V
          go_wp2
          go_ret
          exact ⟨by rw [unhide V]; rfl, unhide (BI _)⟩
      · have d1 : decide ((1 : Int) ≤ (s.size : Int)) = false := by rw [decide_eq_false_iff_not]; omega
        rw [decide_eq_false h1, Bool.false_and] at V
        go_wp2
        go_ret
        exact ⟨by rw [unhide V]; rfl, unhide (BI _)⟩

end Go.Proofs.Ytifiadkbepdehaa
