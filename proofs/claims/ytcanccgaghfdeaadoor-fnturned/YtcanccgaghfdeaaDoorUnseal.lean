/- Sealed texts opened: what both Unsealed answer. -/
import Derived.Test.YtcanccgaghfdeaaDoorSeal
import Derived.Test.YtcanccgaghfdeaaDoorShelf
import Derived.Deep.RegionHeld3
import Derived.Deep.QuietTactic
import Derived.BigQuiet
namespace Go.Proofs.YtcanccgaghfdeaaDoor
open Go.RowKit
open Plain
set_option linter.unusedVariables false

namespace Plain
/-- What a sealed text has ahead of its sum's four bytes. -/
def unsOk (l : List UInt8) : Bool := decide (4 ≤ l.length) && decide (l.length ≤ 20004) && (l.drop (l.length - 4) == four (sumOf (l.take (l.length - 4))))
def unsV (s : ByteArray) : Value := if unsOk s.data.toList then .tuple #[.string (s.extract 0 (s.size - 4)), .bool true] else .tuple #[.string ⟨#[]⟩, .bool false]
theorem unsV_no {s : ByteArray} (h : unsOk s.data.toList = false) : unsV s = .tuple #[.string ⟨#[]⟩, .bool false] := by
  unfold unsV; rw [h]; rfl
theorem unsV_yes {s : ByteArray} (h : unsOk s.data.toList = true) : unsV s = .tuple #[.string (s.extract 0 (s.size - 4)), .bool true] := by
  unfold unsV; rw [h]; rfl
theorem len_size (s : ByteArray) : s.data.toList.length = s.size := rfl
theorem ext_take (s : ByteArray) (n : Nat) : (s.extract 0 n).data.toList = s.data.toList.take n := by
  rw [Lib.extract_data]; simp
theorem ext_drop (s : ByteArray) (n : Nat) : (s.extract n s.size).data.toList = s.data.toList.drop n := by
  rw [Lib.extract_data, List.take_of_length_le (by simp)]
theorem uns_in {s : ByteArray} {n : Nat} (hn : s.size = n + 4) (hs : n ≤ 20000) : unsOk s.data.toList = ((s.extract n (n + 4)).toList == four (sumOf (s.extract 0 n).data.toList)) := by
  rw [← hn, ByteArray.toList_eq, ext_drop, ext_take, unsOk, len_size, show s.size - 4 = n from by omega, decide_eq_true (show 4 ≤ s.size by omega), decide_eq_true (show s.size ≤ 20004 by omega)]
  rfl
theorem uns_seal {s : ByteArray} {n : Nat} (hn : s.size = n + 4) (hs : n ≤ 20000) : unsOk s.data.toList = (sealedL (s.data.toList.take n) == s.toList) := by
  rw [uns_in hn hs, ← hn, ByteArray.toList_eq, ext_drop, ext_take, ByteArray.toList_eq, Bool.eq_iff_iff, beq_iff_eq, beq_iff_eq, sealedL]
  constructor
  · intro h
    rw [← h, List.take_append_drop]
  · intro h
    have := h.trans (List.take_append_drop n s.data.toList).symm
    exact (List.append_cancel_left this).symm
theorem uns_short {s : ByteArray} (h : s.size < 4) : unsOk s.data.toList = false := by
  rw [unsOk, len_size, decide_eq_false (show ¬ 4 ≤ s.size by omega)]; rfl
theorem uns_long {s : ByteArray} (h : 20004 < s.size) : unsOk s.data.toList = false := by
  rw [unsOk, len_size, decide_eq_false (show ¬ s.size ≤ 20004 by omega), Bool.and_false]; rfl
end Plain

set_option maxHeartbeats 1000000 in
theorem spec_Unsealed_short (s : ByteArray) (w : World) (hs : s.size < 4) :
    Calls Tryd.prog 18 #[.string s] w fun e w' => e = .returned (.tuple #[.string ⟨#[]⟩, .bool false]) ∧ Below w.heap.size w w' := by
  have d1 : decide ((s.size : Int) - 4 < 0) = true := by simp; omega
  go_enter Tryd.func18, Tryd.ntmps18
  go_wp2
  go_quiet (fail)
  go_wp2
  go_ret2
  exact ⟨rfl, below_drewN (Below.refl _ _) _⟩
set_option maxHeartbeats 1000000 in
theorem spec_Unsealed_long (s : ByteArray) (w : World) (hs : 20004 < s.size) (hs2 : s.size ≤ 1048576) :
    Calls Tryd.prog 18 #[.string s] w fun e w' => e = .returned (.tuple #[.string ⟨#[]⟩, .bool false]) ∧ Below w.heap.size w w' := by
  have d1 : decide ((s.size : Int) - 4 < 0) = false := by simp; omega
  have d2 : decide ((20000 : Int) < (s.size : Int) - 4) = true := by simp; omega
  go_enter Tryd.func18, Tryd.ntmps18
  go_wp2
  go_quiet (fail)
  go_wp2
  go_ret2
  exact ⟨rfl, below_drewN (Below.refl _ _) _⟩
set_option maxHeartbeats 1000000 in
set_option maxRecDepth 100000 in
theorem spec_Unsealed_in (s : ByteArray) (n : Nat) (w : World) (hn : s.size = n + 4) (hs : n ≤ 20000) :
    Calls Tryd.prog 18 #[.string s] w fun e w' => e = .returned (unsV s) ∧ Below w.heap.size w w' := by
  have d1 : decide ((n : Int) < 0) = false := by simp
  have d2 : decide ((20000 : Int) < (n : Int)) = false := by simp; omega
  have q := fun W => spec_SumOf_any (s.extract 0 n) W (by rw [ByteArray.size_extract]; omega)
  obtain ⟨x, hx⟩ : ∃ x, x = sumOf (s.extract 0 n).data.toList := ⟨_, rfl⟩
  have hxl : x < 4294967296 := by rw [hx]; exact sumOf_lt _
  rw [← hx] at q
  have hx' := hide hx
  clear hx
  have hI : (s.size : Int) - 4 = (n : Int) := by omega
  have hn' : (s.size : Int) = (n : Int) + 4 := by omega
  have hI1 : (0 : Int) ≤ (n : Int) := by omega
  have hI2 : (n : Int) ≤ (n : Int) + 4 := by omega
  have hu := hide (uns_in hn hs)
  have hn4 := hide hn
  go_enter Tryd.func18, Tryd.ntmps18
  go_wp2
  go_region_held3 (fun _ => True) (trivial) (first
    | (go_at_call 16; refine (q _).mono ?_; rintro e w1 ⟨rfl, rfl⟩)
    | (go_at_call 26; refine (l02Four_any x _ hxl).mono ?_; rintro e w1 ⟨rfl, hb1⟩))
  all_goals go_wp2
  all_goals first
    | (have hq : (!(s.extract n (n + 4)).toList == four x) = true := by assumption
       go_ret2
       exact ⟨by rw [unsV_no (by rw [unhide hu, ← unhide hx']; simpa using hq)]; rfl, below2 (Below.refl _ _).drew (by assumption)⟩)
    | (have hq : (!(s.extract n (n + 4)).toList == four x) = false := by assumption
       go_ret2
       exact ⟨by rw [unsV_yes (by rw [unhide hu, ← unhide hx']; simpa using hq), show s.size - 4 = n from by have := unhide hn4; omega]; rfl, below2 (Below.refl _ _).drew (by assumption)⟩)
theorem spec_Unsealed_any (s : ByteArray) (w : World) (hs : s.size ≤ 1048576) :
    Calls Tryd.prog 18 #[.string s] w fun e w' => e = .returned (unsV s) ∧ Below w.heap.size w w' := by
  by_cases h4 : s.size < 4
  · rw [unsV_no (uns_short h4)]; exact spec_Unsealed_short s w h4
  · by_cases hl : 20004 < s.size
    · rw [unsV_no (uns_long hl)]; exact spec_Unsealed_long s w hl hs
    · exact spec_Unsealed_in s (s.size - 4) w (by omega) (by omega)

theorem Clone_any (s : ByteArray) (w : World) (h : s.size ≤ 281474976710656) :
    Calls Tryd.prog 24 #[.string s] w fun e w' => e = .returned (.string s) ∧ Below w.heap.size w w' := by
  go_enter Tryd.func24, Tryd.ntmps24
  go_wp2_with (go_at_call 27; refine (Tryd.stringslite_Clone s _ h).mono ?_; rintro e w1 ⟨rfl, hb⟩)
  go_ret
  exact ⟨rfl, by assumption⟩

theorem impl_Unsealed_short (s : ByteArray) (w : World) (hs : s.size < 4) :
    Calls Tryd.prog 12 #[.string s] w fun e w' => e = .returned (.tuple #[.string ⟨#[]⟩, .bool false]) ∧ Below w.heap.size w w' := by
  have d1 : decide ((s.size : Int) - 4 < 0) = true := by simp; omega
  go_enter Tryd.func12, Tryd.ntmps12
  go_wp2
  go_ret2
  exact ⟨rfl, Below.refl _ _⟩
theorem impl_Unsealed_long (s : ByteArray) (n : Nat) (w : World) (hn : s.size = n + 4) (hs : 20000 < n) (hs2 : n ≤ 1048576) :
    Calls Tryd.prog 12 #[.string s] w fun e w' => e = .returned (.tuple #[.string ⟨#[]⟩, .bool false]) ∧ Below w.heap.size w w' := by
  have d1 : decide ((n : Int) < 0) = false := by simp
  have q := fun W => impl_Sealed_no (s.extract 0 n) W (by rw [ByteArray.size_extract]; omega)
  have hI : (s.size : Int) - 4 = (n : Int) := by omega
  have hn' : (s.size : Int) = (n : Int) + 4 := by omega
  have hI1 : (0 : Int) ≤ (n : Int) := by omega
  have hI2 : (n : Int) ≤ (n : Int) + 4 := by omega
  go_enter Tryd.func12, Tryd.ntmps12
  go_wp2_with (go_at_call 11; refine (q _).mono ?_; rintro e w1 ⟨rfl, rfl⟩)
  go_ret2
  exact ⟨rfl, Below.refl _ _⟩
set_option maxHeartbeats 1000000 in
set_option maxRecDepth 100000 in
theorem impl_Unsealed_in (s : ByteArray) (n : Nat) (w : World) (hn : s.size = n + 4) (hs : n ≤ 20000) (ht : Tabbed w) :
    Calls Tryd.prog 12 #[.string s] w fun e w' => e = .returned (unsV s) ∧ Below w.heap.size w w' := by
  have d1 : decide ((n : Int) < 0) = false := by simp
  have hz : (s.extract 0 n).size ≤ 20000 := by rw [ByteArray.size_extract]; omega
  have q := impl_Sealed_yes (s.extract 0 n) w hz ht
  have hu := hide (uns_seal hn hs)
  have hn4 := hide hn
  have hI : (s.size : Int) - 4 = (n : Int) := by omega
  have hn' : (s.size : Int) = (n : Int) + 4 := by omega
  have hI1 : (0 : Int) ≤ (n : Int) := by omega
  have hI2 : (n : Int) ≤ (n : Int) + 4 := by omega
  go_enter Tryd.func12, Tryd.ntmps12
  go_wp2_with (first | (go_at_call 11; refine q.mono ?_; rintro e w1 ⟨rfl, hb1⟩) | (go_at_call 24; refine (Clone_any (s.extract 0 n) _ (by omega)).mono ?_; rintro e w1 ⟨rfl, hb⟩))
  · have hq : (!sealedL (s.data.toList.take n) == s.toList) = true := by assumption
    go_ret2
    exact ⟨by rw [unsV_no (by rw [unhide hu]; simpa using hq)]; rfl, by assumption⟩
  · have hq : (!sealedL (s.data.toList.take n) == s.toList) = false := by assumption
    go_ret2
    exact ⟨by rw [unsV_yes (by rw [unhide hu]; simpa using hq), show s.size - 4 = n from by have := unhide hn4; omega]; rfl, below2 (by assumption) (by assumption)⟩
theorem impl_Unsealed_any (s : ByteArray) (w : World) (hs : s.size ≤ 1048576) (ht : Tabbed w) :
    Calls Tryd.prog 12 #[.string s] w fun e w' => e = .returned (unsV s) ∧ Below w.heap.size w w' := by
  by_cases h4 : s.size < 4
  · rw [unsV_no (uns_short h4)]; exact impl_Unsealed_short s w h4
  · by_cases hl : 20004 < s.size
    · rw [unsV_no (uns_long hl)]; exact impl_Unsealed_long s (s.size - 4) w (by omega) (by omega) (by omega)
    · exact impl_Unsealed_in s (s.size - 4) w (by omega) (by omega) ht
end Go.Proofs.YtcanccgaghfdeaaDoor
