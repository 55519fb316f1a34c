/- Flags: the program's smallLetters. -/
import Derived.Test.YtanapiaobpoebaaDoorFlagA
import Derived.Test.YtanapiaobpoebaaDoorFlagNames
namespace Go.Proofs.YtanapiaobpoebaaDoor
open Go.RowKit
open Plain
set_option linter.unusedVariables false

set_option maxHeartbeats 2000000 in
set_option maxRecDepth 100000 in
theorem small_any (s : ByteArray) (w : World) (hs : s.size ≤ 1048576) :
    Calls Tryd.prog 23 #[.string s] w fun e w' => e = .returned (.string ⟨(s.data.toList.map lowB).toArray⟩) ∧ Below w.heap.size w w' := by
  obtain ⟨C, w5, hconv, hcell, hfz, hb5⟩ := low_bytes w s
  have R0 : Hid (LowRow s.data.toList s.size w.heap.size 0 w5) := ⟨fun j hj => by rw [low_zero]; exact hcell j hj, hfz⟩
  have B0 := hide hb5
  have HL : Hid (s.data.toList.length = s.size) := rfl
  clear hcell hfz hb5
  go_enter Tryd.func23, Tryd.ntmps23
  go_wp2
  clear hconv
  go_loopw [10] (fun i wr => ∃ k : Nat, k ≤ s.size ∧ i = .int .i64 k ∧ LowRow s.data.toList s.size w.heap.size k wr ∧ Below w.heap.size w wr) (fun i _ => s.size - (intOf i).toNat)
  case atStart => exact ⟨0, Nat.zero_le _, rfl, unhide R0, unhide B0⟩
  case round =>
    obtain ⟨k, hk, rfl, hrow, hbel⟩ := hrel
    by_cases hlt : k < s.size
    · have ck := hrow.cell k hlt
      have fk := hrow.open_ k hlt
      rw [low_here] at ck
      have PUT := hide (hrow.put hlt)
      have ON := hide (fun h => hrow.on h)
      have IN := hide (fun a b => lowB_in (b := s.data.toList.getD k 0) a b)
      have NO := hide (fun a => lowB_no (b := s.data.toList.getD k 0) a)
      have hx : (s.data.toList.getD k 0).toNat < 256 := UInt8.toNat_lt _
      have BW := hide hbel
      clear hrow hbel
      generalize s.data.toList.getD k 0 = x at *
      have i1 : (0 : Int) ≤ (k : Int) := by omega
      have i2 : (k : Int) < (s.size : Int) := by omega
      by_cases h1 : 65 ≤ x.toNat
      · have d1 : decide ((65 : Int) ≤ (x.toNat : Int)) = true := by rw [decide_eq_true_eq]; omega
        by_cases h2 : x.toNat ≤ 90
        · have d2 : decide ((x.toNat : Int) ≤ 90) = true := by rw [decide_eq_true_eq]; omega
          have E : Hid ((lowB x).toNat = x.toNat + 32) := by
            show (lowB x).toNat = _
            rw [unhide IN h1 h2, UInt8.toNat_ofNat']
            omega
          have P := hide (unhide PUT)
          rw [unhide E] at P
          have BS := hide ((unhide BW).setCell (p := ⟨w.heap.size, k, none⟩) (Nat.le_refl _) (.int .u8 ((x.toNat + 32 : Nat) : Int)))
          have x1 : IntKind.u8.wrap ((x.toNat : Int) - 65) = (x.toNat : Int) - 65 := by rw [IntKind.wrap_u8]; omega
          have x2 : IntKind.u8.wrap ((x.toNat : Int) - 65 + 97) = (x.toNat : Int) + 32 := by rw [IntKind.wrap_u8]; omega
          clear PUT
          go_wp2
          exact ⟨⟨k + 1, by omega, by go_num, by simpa using unhide P, by simpa using unhide BS⟩, by simp [intOf]; omega⟩
        · have d2 : decide ((x.toNat : Int) ≤ 90) = false := by rw [decide_eq_false_iff_not]; omega
          have P := hide (unhide ON (unhide NO (fun h => h2 h.2)))
          go_wp2
          exact ⟨⟨k + 1, by omega, by go_num, unhide P, unhide BW⟩, by simp [intOf]; omega⟩
      · have d1 : decide ((65 : Int) ≤ (x.toNat : Int)) = false := by rw [decide_eq_false_iff_not]; omega
        have P := hide (unhide ON (unhide NO (fun h => h1 h.1)))
        go_wp2
        exact ⟨⟨k + 1, by omega, by go_num, unhide P, unhide BW⟩, by simp [intOf]; omega⟩
    · have e : k = s.size := by omega
      subst e
      have CB := (hrow.back (C := C) (unhide HL))
      have BW := hide hbel
      clear hrow hbel
      go_wp2
      go_ret
      exact ⟨rfl, unhide BW⟩
end Go.Proofs.YtanapiaobpoebaaDoor
