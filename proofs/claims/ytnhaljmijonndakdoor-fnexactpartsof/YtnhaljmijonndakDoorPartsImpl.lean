/- The parts of a line: what the program's PartsOf answers. -/
import Derived.Test.YtnhaljmijonndakDoorParts
import Derived.Test.YtnhaljmijonndakDoorShelf
import Derived.Lib.LaidTab
namespace Go.Proofs.YtnhaljmijonndakDoor
open Go.RowKit
open Plain
set_option linter.unusedVariables false

theorem gSp : Tryd.prog.globalNamed "strings.asciiSpace" = some 0 := by kernel_rfl
theorem sp_below {w w1 : World} (h : Below w.heap.size w w1) (ht : Lib.TabIs Tryd.prog w "strings.asciiSpace" .u8 Lib.asciiSpaceTab) : Lib.TabIs Tryd.prog w1 "strings.asciiSpace" .u8 Lib.asciiSpaceTab :=
  var?_below h gSp (World.block_lt_of_cell? w _ (ht.cell gSp 0 (by simp [Lib.asciiSpaceTab]))) ht

theorem Clone_any (s : ByteArray) (w : World) (h : s.size ≤ 281474976710656) :
    Calls Tryd.prog 18 #[.string s] w fun e w' => e = .returned (.string s) ∧ Below w.heap.size w w' := by
  go_enter Tryd.func18, Tryd.ntmps18
  go_wp2_with (go_at_call 23; refine (Tryd.stringslite_Clone s _ h).mono ?_; rintro e w1 ⟨rfl, hb⟩)
  go_ret
  exact ⟨rfl, by assumption⟩

theorem Fields_any (s : ByteArray) (w : World) (hs : s.size ≤ 600) (hp : Prs s.data.toList s.data.toList.length) (ht : Lib.TabIs Tryd.prog w "strings.asciiSpace" .u8 Lib.asciiSpaceTab) :
    Calls Tryd.prog 17 #[.string s] w fun e w' => e = .returned (.slice (some ⟨w.heap.size, 0, none⟩) (Lib.fields s.data.toList).length (Lib.fields s.data.toList).length) ∧
      w'.ownsRow w.heap.size 9 1 (.slice (some ⟨w.heap.size, 0, none⟩) (Lib.fields s.data.toList).length (Lib.fields s.data.toList).length) (Lib.fields s.data.toList).length (strs (Lib.fields s.data.toList)) ∧ Below w.heap.size w w' ∧ (Lib.fields s.data.toList).length ≤ 600 := by
  refine (Tryd.strings_Fields_laid s w (by omega) ?_ ht).mono ?_
  · intro j b hb
    have hj : j < s.data.toList.length := (List.getElem?_eq_some_iff.1 hb).1
    have := hp j b hj hb
    rw [prB_iff] at this; omega
  · rintro e w' ⟨rfl, rfl⟩
    have hfl : (Lib.fields s.data.toList).length ≤ 600 := by
      have : ∀ (l cur : List UInt8), (Lib.fieldsGo cur l).length ≤ l.length + (if cur.isEmpty then 0 else 1) := by
        intro l
        induction l with
        | nil => intro cur; simp only [Lib.fieldsGo]; split <;> simp
        | cons b r ih =>
          intro cur
          simp only [Lib.fieldsGo, List.length_cons]
          split
          · split
            · have := ih []; simp at this; omega
            · have := ih []; simp at this ⊢; omega
          · have := ih (cur ++ [b]); simp at this; split <;> omega
      have h := this s.data.toList []
      have e : s.data.toList.length = s.size := by simp
      simp at h
      unfold Lib.fields
      omega
    refine ⟨rfl, ?_, (Below.refl _ _).alloc (Nat.le_refl _) _, hfl⟩
    have h := World.ownsRow_lit (base := w.heap.size) (e := 9) (size := 1) w ((Lib.fields s.data.toList).map fun l => Value.string ⟨l.toArray⟩).toArray (Lib.fields s.data.toList).length (Nat.le_refl _) (by unfold maxLen; omega) (by simp)
    simpa [strs] using h

set_option maxHeartbeats 1600000 in
set_option maxRecDepth 100000 in
theorem impl_PartsOf_in (s : ByteArray) (w : World) (hs : s.size ≤ 600) (ht : Lib.TabIs Tryd.prog w "strings.asciiSpace" .u8 Lib.asciiSpaceTab) :
    Calls Tryd.prog 11 #[.string s] w (PartsLeft s.data.toList w) := by
  have hl' := hide (show s.data.toList.length = s.size by simp)
  have hd0 : decide ((600 : Int) < s.size) = false := by simp; omega
  have HT := hide ht
  clear ht
  go_enter Tryd.func11, Tryd.ntmps11
  go_wp2
  go_loop [11] (fun i => ∃ k : Nat, k ≤ s.size ∧ i = .int .i64 k ∧ Prs s.data.toList k) (fun i => s.size - (intOf i).toNat)
  case atStart => exact ⟨0, Nat.zero_le _, rfl, Prs.zero _⟩
  case round =>
    obtain ⟨k, hk, rfl, hpr⟩ := hrel
    by_cases hlt : k < s.size
    · have hc := Plain.byte_at hlt
      have hx : s[k].toNat < 256 := s[k].toNat_lt
      cases hp : prB s[k].toNat with
      | false =>
        have hno := hide (ok_bad hc hp)
        rw [prB_not] at hp
        clear hpr hc
        by_cases h32 : s[k].toNat < 32
        · have d1 : decide ((s[k].toNat : Int) < 32) = true := by simp; omega
          go_wp2
          go_ret2
          refine ⟨_, by rw [unhide hno]; rfl, ?_, Below.refl _ _⟩
          rw [parts_no (unhide hno)]
          exact World.ownsRow_nil _ _ _ _
        · have d1 : decide ((s[k].toNat : Int) < 32) = false := by simp; omega
          have d2 : decide ((126 : Int) < s[k].toNat) = true := by simp; omega
          go_wp2
          go_ret2
          refine ⟨_, by rw [unhide hno]; rfl, ?_, Below.refl _ _⟩
          rw [parts_no (unhide hno)]
          exact World.ownsRow_nil _ _ _ _
      | true =>
        have hpr' := hpr.succ hc hp
        rw [prB_iff] at hp
        have d1 : decide ((s[k].toNat : Int) < 32) = false := by simp; omega
        have d2 : decide ((126 : Int) < s[k].toNat) = false := by simp; omega
        clear hpr hc
        go_wp2
        go_round
        case rel => exact ⟨k + 1, by omega, by go_num, hpr'⟩
        case measure => simp [intOf]; omega
    · have hpr' : Prs s.data.toList s.data.toList.length := by rw [unhide hl', show s.size = k from by omega]; exact hpr
      have hok := ok_all hpr' (Nat.le_refl _) (by rw [unhide hl']; exact hs)
      have HO := hide hok
      have HP := hide hpr'
      clear hpr hpr' hok
      go_wp2_with fail
      refine (Clone_any s _ (by omega)).mono ?_
      rintro e w1 ⟨rfl, hb1⟩
      go_wp2_with fail
      refine (Fields_any s w1 hs (unhide HP) (sp_below hb1 (unhide HT))).mono ?_
      rintro e w2 ⟨rfl, hown, hb2, hfl⟩
      have hB := below2 hb1 hb2
      have hown' : w2.ownsRow w.heap.size 9 1 (.slice (some ⟨w1.heap.size, 0, none⟩) (Lib.fields s.data.toList).length (Lib.fields s.data.toList).length) (Lib.fields s.data.toList).length (strs (Lib.fields s.data.toList)) := own_lower hown hb1.size
      have HB := hide hB
      have HW := hide hown'
      generalize hLq : (Lib.fields s.data.toList).length = L at *
      have HL := hide hLq
      clear hown hown' hb1 hb2 hB hLq
      by_cases h10 : 10 < L
      · have d1 : decide ((10 : Int) < L) = true := by simp; omega
        go_wp2
        go_ret2
        have hno : okP s.data.toList = false := by rw [unhide HO]; simp; omega
        refine ⟨_, by rw [hno]; rfl, ?_, unhide HB⟩
        rw [parts_no hno]
        exact World.ownsRow_nil _ _ _ _
      · have d1 : decide ((10 : Int) < L) = false := by simp; omega
        go_wp2
        go_ret2
        have hyes : okP s.data.toList = true := by rw [unhide HO]; simp; omega
        refine ⟨_, by rw [hyes]; rfl, ?_, unhide HB⟩
        rw [parts_yes hyes, unhide HL]
        exact unhide HW

theorem impl_PartsOf_long (s : ByteArray) (w : World) (hs : 600 < s.size) :
    Calls Tryd.prog 11 #[.string s] w (PartsLeft s.data.toList w) := by
  have hno := hide (ok_long (l := s.data.toList) (by simpa using hs))
  have hd0 : decide ((600 : Int) < s.size) = true := by simp; omega
  go_enter Tryd.func11, Tryd.ntmps11
  go_wp2
  go_ret2
  refine ⟨_, by rw [unhide hno]; rfl, ?_, Below.refl _ _⟩
  rw [parts_no (unhide hno)]
  exact World.ownsRow_nil _ _ _ _
end Go.Proofs.YtnhaljmijonndakDoor
