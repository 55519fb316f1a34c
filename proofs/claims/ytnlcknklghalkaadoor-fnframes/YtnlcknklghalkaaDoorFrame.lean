/- Frames: what both Frame answer, and what stands at a place of a file. -/
import Derived.Test.YtnlcknklghalkaaDoorSeal
import Derived.Test.YtnlcknklghalkaaDoorRead
import Derived.Test.YtnlcknklghalkaaDoorFramePlain
import Derived.Deep.RegionHeld3
import Derived.Deep.QuietTactic
import Derived.BigQuiet
import Derived.WalkSmall
namespace Go.Proofs.YtnlcknklghalkaaDoor
open Go.RowKit
open Plain
set_option linter.unusedVariables false

theorem frame_eq (s : ByteArray) : (⟨(varL s.size).toArray⟩ : ByteArray) ++ ⟨(four (sumOf s.data.toList)).toArray⟩ ++ s = ⟨(frameL s.data.toList).toArray⟩ := by
  rw [show s = ⟨s.data.toList.toArray⟩ from rfl, ByteArray.mk_append_mk, ByteArray.mk_append_mk]
  rfl

theorem recordOk_any (s : ByteArray) (w : World) (hs : s.size ≤ 1048576) :
    Calls Tryd.prog 23 #[.string s] w fun e w' => e = .returned (.bool (decide (1 ≤ s.size ∧ s.size ≤ 9000))) ∧ w' = w := by
  by_cases h0 : s.size = 0
  · have e : s = ⟨#[]⟩ := by
      apply ByteArray.ext
      exact Array.eq_empty_of_size_eq_zero h0
    subst e
    go_enter Tryd.func23, Tryd.ntmps23
    go_wp2
    go_ret
    exact ⟨rfl, rfl⟩
  · have hd : s.toList.isEmpty = false := by
      rw [ByteArray.toList_eq, List.isEmpty_eq_false_iff]
      intro e
      have : s.data.toList.length = 0 := by rw [e]; rfl
      exact h0 this
    have hz : decide ((s.size : Int) ≤ 9000) = decide (1 ≤ s.size ∧ s.size ≤ 9000) := by
      by_cases h : s.size ≤ 9000
      · rw [decide_eq_true (show 1 ≤ s.size ∧ s.size ≤ 9000 by omega), decide_eq_true (show (s.size : Int) ≤ 9000 by omega)]
      · rw [decide_eq_false (show ¬ (1 ≤ s.size ∧ s.size ≤ 9000) by omega), decide_eq_false (show ¬ (s.size : Int) ≤ 9000 by omega)]
    have hz' := hide hz
    clear hz
    go_enter Tryd.func23, Tryd.ntmps23
    go_wp2
    all_goals first
      | (go_ret
         refine ⟨?_, rfl⟩
         rw [← unhide hz']
         simp)
      | (exfalso
         have hx : s.toList = [] := by assumption
         rw [hx] at hd
         cases hd)

set_option maxHeartbeats 1000000 in
theorem spec_Frame_yes (s : ByteArray) (w : World) (h1 : 1 ≤ s.size) (h2 : s.size ≤ 9000) :
    Calls Tryd.prog 12 #[.string s] w fun e w' => e = .returned (.tuple #[.string ⟨(frameL s.data.toList).toArray⟩, .bool true]) ∧ Below w.heap.size w w' := by
  have q := fun W => spec_SumOf_any s W (by omega)
  obtain ⟨x, hx⟩ : ∃ x, x = sumOf s.data.toList := ⟨_, rfl⟩
  have hxl : x < 4294967296 := by rw [hx]; exact sumOf_lt _
  have he := frame_eq s
  rw [← hx] at q he
  have h4 := four_size x
  have hl : (varL s.size).length ≤ 11 := varL_length _
  have hl2 : (⟨(varL s.size).toArray⟩ : ByteArray).size ≤ 11 := hl
  have he' := hide he
  clear he hx
  go_enter Tryd.func12, Tryd.ntmps12
  go_wp2_with (first
    | (go_at_call 29; refine (l01In_yes _ _ _ _ (by omega) (by omega)).mono ?_; rintro e w0 ⟨rfl, rfl⟩)
    | (go_at_call 30; refine (l01Var_any s.size _ (by omega)).mono ?_; rintro e w1 ⟨rfl, hb0⟩)
    | (go_at_call 32; refine (q _).mono ?_; rintro e w1 ⟨rfl, rfl⟩)
    | (go_at_call 31; refine (l02Four_any x _ hxl).mono ?_; rintro e w2 ⟨rfl, hb1⟩))
  go_ret2
  exact ⟨by rw [← unhide he']; rfl, below2 hb0 hb1⟩
theorem spec_Frame_no (s : ByteArray) (w : World) (h : s.size < 1 ∨ 9000 < s.size) (hs : s.size ≤ 1048576) :
    Calls Tryd.prog 12 #[.string s] w fun e w' => e = .returned (.tuple #[.string ⟨#[]⟩, .bool false]) ∧ w' = w := by
  go_enter Tryd.func12, Tryd.ntmps12
  go_wp2_with (first
    | (go_at_call 29; refine (l01In_no _ _ _ _ (by omega)).mono ?_; rintro e w0 ⟨rfl, rfl⟩))
  go_ret2
  exact ⟨rfl, rfl⟩

set_option maxHeartbeats 1000000 in
theorem impl_Frame_yes (s : ByteArray) (w : World) (h1 : 1 ≤ s.size) (h2 : s.size ≤ 9000) (ht : Tabbed w) :
    Calls Tryd.prog 9 #[.string s] w fun e w' => e = .returned (.tuple #[.string ⟨(frameL s.data.toList).toArray⟩, .bool true]) ∧ Below w.heap.size w w' := by
  have HT := hide ht
  clear ht
  have q := hide (fun W (hb : Below w.heap.size w W) => impl_SumOf_any s W (by omega) ((unhide HT).below hb))
  obtain ⟨x, hx⟩ : ∃ x, x = sumOf s.data.toList := ⟨_, rfl⟩
  have hxl : x < 4294967296 := by rw [hx]; exact sumOf_lt _
  have he := frame_eq s
  rw [← hx] at q he
  have h4 := four_size x
  have hl : (varL s.size).length ≤ 11 := varL_length _
  have hl2 : (⟨(varL s.size).toArray⟩ : ByteArray).size ≤ 11 := hl
  have he' := hide he
  have qr := recordOk_any s w (by omega)
  rw [decide_eq_true (show 1 ≤ s.size ∧ s.size ≤ 9000 from ⟨h1, h2⟩)] at qr
  clear he hx
  go_enter Tryd.func9, Tryd.ntmps9
  go_wp2_with (first
    | (go_at_call 23; refine qr.mono ?_; rintro e w0 ⟨rfl, rfl⟩)
    | (go_at_call 24; refine (impl_VarText_yes s.size _ (by omega)).mono ?_; rintro e w1 ⟨rfl, hb0⟩)
    | (go_at_call 25; refine (unhide q _ hb0).mono ?_; rintro e w2 ⟨rfl, hb1⟩)
    | (go_at_call 26; refine (text_any x _ hxl).mono ?_; rintro e w3 ⟨rfl, hb2⟩))
  go_ret2
  exact ⟨by rw [← unhide he']; rfl, below2 (below2 hb0 hb1) hb2⟩
theorem impl_Frame_no (s : ByteArray) (w : World) (h : s.size < 1 ∨ 9000 < s.size) (hs : s.size ≤ 1048576) :
    Calls Tryd.prog 9 #[.string s] w fun e w' => e = .returned (.tuple #[.string ⟨#[]⟩, .bool false]) ∧ w' = w := by
  have qr := recordOk_any s w (by omega)
  rw [decide_eq_false (show ¬ (1 ≤ s.size ∧ s.size ≤ 9000) by omega)] at qr
  go_enter Tryd.func9, Tryd.ntmps9
  go_wp2_with (first
    | (go_at_call 23; refine qr.mono ?_; rintro e w0 ⟨rfl, rfl⟩))
  go_ret2
  exact ⟨rfl, rfl⟩
end Go.Proofs.YtnlcknklghalkaaDoor
