/- Flags: the program's flagNamed. -/
import Derived.Test.YthnofckkehephaaGreatDoorFlagLowI
namespace Go.Proofs.YthnofckkehephaaGreatDoor
open Go.RowKit
open Plain
set_option linter.unusedVariables false

set_option maxHeartbeats 2000000 in
set_option maxRecDepth 100000 in
theorem flagNamed_any (L : List UInt8) (w : World) (hN : Named w) :
    Calls Tryz.prog 30 #[.string ⟨L.toArray⟩] w fun e w' => e = .returned (.tuple #[.int .i64 (bitV L), .bool (!bitV L == 0)]) ∧ Below w.heap.size w w' := by
  have c0 := hN.cell 0 rfl
  have c1 := hN.cell 1 rfl
  have c2 := hN.cell 2 rfl
  have c3 := hN.cell 3 rfl
  have c4 := hN.cell 4 rfl
  have B := hide (Below.refl w.heap.size w)
  clear hN
  go_enter Tryz.func30, Tryz.ntmps30
  go_wp2
  clear c0 c1 c2 c3 c4
  go_loop [7] (fun i => ∃ k : Nat, k ≤ 5 ∧ i = .int .i64 k ∧ bitV L = bitFrom L k) (fun i => 5 - (intOf i).toNat)
  case atStart => exact ⟨0, by omega, rfl, rfl⟩
  case round =>
    obtain ⟨k, hk, rfl, hv⟩ := hrel
    have HV := hide hv
    clear hv
    rcases (show k = 0 ∨ k = 1 ∨ k = 2 ∨ k = 3 ∨ k = 4 ∨ k = 5 by omega) with rfl | rfl | rfl | rfl | rfl | rfl
    · simp only [show ((0 : Nat) : Int) = 0 from rfl]
      have x0 := name0
      by_cases h1 : L = seenL
      · have V : Hid (bitV L = 1) := (unhide HV).trans (if_pos h1)
        have tT : (seenL == L) = true := by rw [h1]; decide
        clear h1 HV
        go_wp2
        go_ret2
        exact ⟨by rw [unhide V]; rfl, unhide B⟩
      · have V : Hid (bitV L = bitFrom L 1) := (unhide HV).trans (if_neg h1)
        have tF : (seenL == L) = false := by rw [beq_eq_false_iff_ne]; exact fun h => h1 h.symm
        clear h1 HV
        go_wp2
        exact ⟨⟨1, by omega, rfl, unhide V⟩, by decide⟩
    · simp only [show ((1 : Nat) : Int) = 1 from rfl]
      have x1 := name1
      by_cases h1 : L = answL
      · have V : Hid (bitV L = 2) := (unhide HV).trans (if_pos h1)
        have tT : (answL == L) = true := by rw [h1]; decide
        clear h1 HV
        go_wp2
        go_ret2
        exact ⟨by rw [unhide V]; rfl, unhide B⟩
      · have V : Hid (bitV L = bitFrom L 2) := (unhide HV).trans (if_neg h1)
        have tF : (answL == L) = false := by rw [beq_eq_false_iff_ne]; exact fun h => h1 h.symm
        clear h1 HV
        go_wp2
        exact ⟨⟨2, by omega, rfl, unhide V⟩, by decide⟩
    · simp only [show ((2 : Nat) : Int) = 2 from rfl]
      have x2 := name2
      by_cases h1 : L = flagL
      · have V : Hid (bitV L = 4) := (unhide HV).trans (if_pos h1)
        have tT : (flagL == L) = true := by rw [h1]; decide
        clear h1 HV
        go_wp2
        go_ret2
        exact ⟨by rw [unhide V]; rfl, unhide B⟩
      · have V : Hid (bitV L = bitFrom L 3) := (unhide HV).trans (if_neg h1)
        have tF : (flagL == L) = false := by rw [beq_eq_false_iff_ne]; exact fun h => h1 h.symm
        clear h1 HV
        go_wp2
        exact ⟨⟨3, by omega, rfl, unhide V⟩, by decide⟩
    · simp only [show ((3 : Nat) : Int) = 3 from rfl]
      have x3 := name3
      by_cases h1 : L = deleL
      · have V : Hid (bitV L = 8) := (unhide HV).trans (if_pos h1)
        have tT : (deleL == L) = true := by rw [h1]; decide
        clear h1 HV
        go_wp2
        go_ret2
        exact ⟨by rw [unhide V]; rfl, unhide B⟩
      · have V : Hid (bitV L = bitFrom L 4) := (unhide HV).trans (if_neg h1)
        have tF : (deleL == L) = false := by rw [beq_eq_false_iff_ne]; exact fun h => h1 h.symm
        clear h1 HV
        go_wp2
        exact ⟨⟨4, by omega, rfl, unhide V⟩, by decide⟩
    · simp only [show ((4 : Nat) : Int) = 4 from rfl]
      have x4 := name4
      by_cases h1 : L = drafL
      · have V : Hid (bitV L = 16) := (unhide HV).trans (if_pos h1)
        have tT : (drafL == L) = true := by rw [h1]; decide
        clear h1 HV
        go_wp2
        go_ret2
        exact ⟨by rw [unhide V]; rfl, unhide B⟩
      · have V : Hid (bitV L = bitFrom L 5) := (unhide HV).trans (if_neg h1)
        have tF : (drafL == L) = false := by rw [beq_eq_false_iff_ne]; exact fun h => h1 h.symm
        clear h1 HV
        go_wp2
        exact ⟨⟨5, by omega, rfl, unhide V⟩, by decide⟩
    · simp only [show ((5 : Nat) : Int) = 5 from rfl]
      go_wp2
      go_ret2
      exact ⟨by rw [unhide HV]; rfl, unhide B⟩
end Go.Proofs.YthnofckkehephaaGreatDoor
