/- The specification's l10Uses. Made by gen_edit.py. -/
import Derived.Test.YtecognggnbopaacDoorEdVal
import Derived.Test.YtecognggnbopaacDoorEdSame
namespace Go.Proofs.YtecognggnbopaacDoor
open Go.RowKit Go.ChangeShapes Go.WideShapes Go.ChangeAt Go.Deep
open Plain
set_option linter.unusedVariables false
set_option linter.unusedSimpArgs false

set_option maxHeartbeats 4000000 in
set_option maxRecDepth 100000 in
theorem uses1 (box dst text : ByteArray) (n : Nat) (how bits since : Int) (a : Option Addr) (c : Nat) (w : World) (hs : n ≤ 1048576) :
    Calls Tryd.prog 23 #[.agg #[.int .i64 1, .string box, .string dst, .slice a n c, .int .i64 how, .int .i64 bits, .int .i64 since, .string text]] w fun x w' => x = .returned (.bool ((((((([] == dst.toList) && decide (n = 0)) && decide ((0 : Int) = how)) && decide ((0 : Int) = bits)) && decide ((0 : Int) = since)) && ([] == text.toList)))) ∧ Below w.heap.size w w' := by
  obtain ⟨R, hR⟩ : ∃ R, R = ((((((([] == dst.toList) && decide (n = 0)) && decide ((0 : Int) = how)) && decide ((0 : Int) = bits)) && decide ((0 : Int) = since)) && ([] == text.toList))) := ⟨_, rfl⟩
  rw [← hR]
  cases h_dst : ([] == dst.toList) with
  | false =>
    have g_dst := nil_beq h_dst
    have BB := hide (Below.refl w.heap.size w)
    have hA : R = false := by rw [hR]; simp [h_dst]
    clear hR
    subst hA
    obtain ⟨ws1, hA⟩ : ∃ X, X = w.alloc (.cells ([.int .i64 1, .string box, .string dst, .slice a n c, .int .i64 how, .int .i64 bits, .int .i64 since, .string text] : List Value).toArray 30) := ⟨_, rfl⟩
    have Ax : HasObj ws1 w.heap.size 30 [.int .i64 1, .string box, .string dst, .slice a n c, .int .i64 how, .int .i64 bits, .int .i64 since, .string text] := by rw [hA]; exact HasObj.new _ _ _
    have hbn : Below w.heap.size w ws1 := by rw [hA]; exact (Below.refl _ _).alloc (Nat.le_refl _) _
    have loA : w.heap.size ≤ w.heap.size := (unhide BB).size
    have EA := hA.symm
    clear hA
    have sz1 := hide (hbn.size)
    have BB_ := hide (below_y (unhide BB) hbn)
    clear BB
    have BB := BB_
    clear BB_
    clear hbn
    have A := hide Ax
    clear Ax
    have Ac0_1 := (unhide A).cell 0 rfl
    have Ac1_1 := (unhide A).cell 1 rfl
    have Ac2_1 := (unhide A).cell 2 rfl
    have Ac3_1 := (unhide A).cell 3 rfl
    have Ac4_1 := (unhide A).cell 4 rfl
    have Ac5_1 := (unhide A).cell 5 rfl
    have Ac6_1 := (unhide A).cell 6 rfl
    have Ac7_1 := (unhide A).cell 7 rfl
    go_enter Tryd.func23, Tryd.ntmps23
    go_wp2
    go_ret
    exact ⟨rfl, unhide BB⟩
  | true =>
    have g_dst := nil_beq h_dst
    by_cases h_set : n = 0
    · subst h_set
      by_cases h_how : (0 : Int) = how
      · subst h_how
        by_cases h_bits : (0 : Int) = bits
        · subst h_bits
          by_cases h_since : (0 : Int) = since
          · subst h_since
            cases h_text : ([] == text.toList) with
            | false =>
              have g_text := nil_beq h_text
              have BB := hide (Below.refl w.heap.size w)
              have hA : R = false := by rw [hR]; simp [h_dst, h_text]
              clear hR
              subst hA
              obtain ⟨ws1, hA⟩ : ∃ X, X = w.alloc (.cells ([.int .i64 1, .string box, .string dst, .slice a 0 c, .int .i64 0, .int .i64 0, .int .i64 0, .string text] : List Value).toArray 30) := ⟨_, rfl⟩
              have Ax : HasObj ws1 w.heap.size 30 [.int .i64 1, .string box, .string dst, .slice a 0 c, .int .i64 0, .int .i64 0, .int .i64 0, .string text] := by rw [hA]; exact HasObj.new _ _ _
              have hbn : Below w.heap.size w ws1 := by rw [hA]; exact (Below.refl _ _).alloc (Nat.le_refl _) _
              have loA : w.heap.size ≤ w.heap.size := (unhide BB).size
              have EA := hA.symm
              clear hA
              have sz1 := hide (hbn.size)
              have BB_ := hide (below_y (unhide BB) hbn)
              clear BB
              have BB := BB_
              clear BB_
              clear hbn
              have A := hide Ax
              clear Ax
              have Ac0_1 := (unhide A).cell 0 rfl
              have Ac1_1 := (unhide A).cell 1 rfl
              have Ac2_1 := (unhide A).cell 2 rfl
              have Ac3_1 := (unhide A).cell 3 rfl
              have Ac4_1 := (unhide A).cell 4 rfl
              have Ac5_1 := (unhide A).cell 5 rfl
              have Ac6_1 := (unhide A).cell 6 rfl
              have Ac7_1 := (unhide A).cell 7 rfl
              go_enter Tryd.func23, Tryd.ntmps23
              go_wp2
              go_ret
              exact ⟨rfl, unhide BB⟩
            | true =>
              have g_text := nil_beq h_text
              have BB := hide (Below.refl w.heap.size w)
              have hA : R = true := by rw [hR]; simp [h_dst, h_text]
              clear hR
              subst hA
              obtain ⟨ws1, hA⟩ : ∃ X, X = w.alloc (.cells ([.int .i64 1, .string box, .string dst, .slice a 0 c, .int .i64 0, .int .i64 0, .int .i64 0, .string text] : List Value).toArray 30) := ⟨_, rfl⟩
              have Ax : HasObj ws1 w.heap.size 30 [.int .i64 1, .string box, .string dst, .slice a 0 c, .int .i64 0, .int .i64 0, .int .i64 0, .string text] := by rw [hA]; exact HasObj.new _ _ _
              have hbn : Below w.heap.size w ws1 := by rw [hA]; exact (Below.refl _ _).alloc (Nat.le_refl _) _
              have loA : w.heap.size ≤ w.heap.size := (unhide BB).size
              have EA := hA.symm
              clear hA
              have sz1 := hide (hbn.size)
              have BB_ := hide (below_y (unhide BB) hbn)
              clear BB
              have BB := BB_
              clear BB_
              clear hbn
              have A := hide Ax
              clear Ax
              have Ac0_1 := (unhide A).cell 0 rfl
              have Ac1_1 := (unhide A).cell 1 rfl
              have Ac2_1 := (unhide A).cell 2 rfl
              have Ac3_1 := (unhide A).cell 3 rfl
              have Ac4_1 := (unhide A).cell 4 rfl
              have Ac5_1 := (unhide A).cell 5 rfl
              have Ac6_1 := (unhide A).cell 6 rfl
              have Ac7_1 := (unhide A).cell 7 rfl
              go_enter Tryd.func23, Tryd.ntmps23
              go_wp2
              go_ret
              exact ⟨rfl, unhide BB⟩
          · have g_since : ¬ (since = 0) := fun h => h_since h.symm
            have BB := hide (Below.refl w.heap.size w)
            have hA : R = false := by rw [hR]; simp [h_dst, h_since]
            clear hR
            subst hA
            obtain ⟨ws1, hA⟩ : ∃ X, X = w.alloc (.cells ([.int .i64 1, .string box, .string dst, .slice a 0 c, .int .i64 0, .int .i64 0, .int .i64 since, .string text] : List Value).toArray 30) := ⟨_, rfl⟩
            have Ax : HasObj ws1 w.heap.size 30 [.int .i64 1, .string box, .string dst, .slice a 0 c, .int .i64 0, .int .i64 0, .int .i64 since, .string text] := by rw [hA]; exact HasObj.new _ _ _
            have hbn : Below w.heap.size w ws1 := by rw [hA]; exact (Below.refl _ _).alloc (Nat.le_refl _) _
            have loA : w.heap.size ≤ w.heap.size := (unhide BB).size
            have EA := hA.symm
            clear hA
            have sz1 := hide (hbn.size)
            have BB_ := hide (below_y (unhide BB) hbn)
            clear BB
            have BB := BB_
            clear BB_
            clear hbn
            have A := hide Ax
            clear Ax
            have Ac0_1 := (unhide A).cell 0 rfl
            have Ac1_1 := (unhide A).cell 1 rfl
            have Ac2_1 := (unhide A).cell 2 rfl
            have Ac3_1 := (unhide A).cell 3 rfl
            have Ac4_1 := (unhide A).cell 4 rfl
            have Ac5_1 := (unhide A).cell 5 rfl
            have Ac6_1 := (unhide A).cell 6 rfl
            have Ac7_1 := (unhide A).cell 7 rfl
            go_enter Tryd.func23, Tryd.ntmps23
            go_wp2
            go_ret
            exact ⟨rfl, unhide BB⟩
        · have g_bits : ¬ (bits = 0) := fun h => h_bits h.symm
          have BB := hide (Below.refl w.heap.size w)
          have hA : R = false := by rw [hR]; simp [h_dst, h_bits]
          clear hR
          subst hA
          obtain ⟨ws1, hA⟩ : ∃ X, X = w.alloc (.cells ([.int .i64 1, .string box, .string dst, .slice a 0 c, .int .i64 0, .int .i64 bits, .int .i64 since, .string text] : List Value).toArray 30) := ⟨_, rfl⟩
          have Ax : HasObj ws1 w.heap.size 30 [.int .i64 1, .string box, .string dst, .slice a 0 c, .int .i64 0, .int .i64 bits, .int .i64 since, .string text] := by rw [hA]; exact HasObj.new _ _ _
          have hbn : Below w.heap.size w ws1 := by rw [hA]; exact (Below.refl _ _).alloc (Nat.le_refl _) _
          have loA : w.heap.size ≤ w.heap.size := (unhide BB).size
          have EA := hA.symm
          clear hA
          have sz1 := hide (hbn.size)
          have BB_ := hide (below_y (unhide BB) hbn)
          clear BB
          have BB := BB_
          clear BB_
          clear hbn
          have A := hide Ax
          clear Ax
          have Ac0_1 := (unhide A).cell 0 rfl
          have Ac1_1 := (unhide A).cell 1 rfl
          have Ac2_1 := (unhide A).cell 2 rfl
          have Ac3_1 := (unhide A).cell 3 rfl
          have Ac4_1 := (unhide A).cell 4 rfl
          have Ac5_1 := (unhide A).cell 5 rfl
          have Ac6_1 := (unhide A).cell 6 rfl
          have Ac7_1 := (unhide A).cell 7 rfl
          go_enter Tryd.func23, Tryd.ntmps23
          go_wp2
          go_ret
          exact ⟨rfl, unhide BB⟩
      · have g_how : ¬ (how = 0) := fun h => h_how h.symm
        have BB := hide (Below.refl w.heap.size w)
        have hA : R = false := by rw [hR]; simp [h_dst, h_how]
        clear hR
        subst hA
        obtain ⟨ws1, hA⟩ : ∃ X, X = w.alloc (.cells ([.int .i64 1, .string box, .string dst, .slice a 0 c, .int .i64 how, .int .i64 bits, .int .i64 since, .string text] : List Value).toArray 30) := ⟨_, rfl⟩
        have Ax : HasObj ws1 w.heap.size 30 [.int .i64 1, .string box, .string dst, .slice a 0 c, .int .i64 how, .int .i64 bits, .int .i64 since, .string text] := by rw [hA]; exact HasObj.new _ _ _
        have hbn : Below w.heap.size w ws1 := by rw [hA]; exact (Below.refl _ _).alloc (Nat.le_refl _) _
        have loA : w.heap.size ≤ w.heap.size := (unhide BB).size
        have EA := hA.symm
        clear hA
        have sz1 := hide (hbn.size)
        have BB_ := hide (below_y (unhide BB) hbn)
        clear BB
        have BB := BB_
        clear BB_
        clear hbn
        have A := hide Ax
        clear Ax
        have Ac0_1 := (unhide A).cell 0 rfl
        have Ac1_1 := (unhide A).cell 1 rfl
        have Ac2_1 := (unhide A).cell 2 rfl
        have Ac3_1 := (unhide A).cell 3 rfl
        have Ac4_1 := (unhide A).cell 4 rfl
        have Ac5_1 := (unhide A).cell 5 rfl
        have Ac6_1 := (unhide A).cell 6 rfl
        have Ac7_1 := (unhide A).cell 7 rfl
        go_enter Tryd.func23, Tryd.ntmps23
        go_wp2
        go_ret
        exact ⟨rfl, unhide BB⟩
    · have g_set : ¬ ((n : Int) = 0) := by omega
      have BB := hide (Below.refl w.heap.size w)
      have hA : R = false := by rw [hR]; simp [h_dst, h_set]
      clear hR
      subst hA
      obtain ⟨ws1, hA⟩ : ∃ X, X = w.alloc (.cells ([.int .i64 1, .string box, .string dst, .slice a n c, .int .i64 how, .int .i64 bits, .int .i64 since, .string text] : List Value).toArray 30) := ⟨_, rfl⟩
      have Ax : HasObj ws1 w.heap.size 30 [.int .i64 1, .string box, .string dst, .slice a n c, .int .i64 how, .int .i64 bits, .int .i64 since, .string text] := by rw [hA]; exact HasObj.new _ _ _
      have hbn : Below w.heap.size w ws1 := by rw [hA]; exact (Below.refl _ _).alloc (Nat.le_refl _) _
      have loA : w.heap.size ≤ w.heap.size := (unhide BB).size
      have EA := hA.symm
      clear hA
      have sz1 := hide (hbn.size)
      have BB_ := hide (below_y (unhide BB) hbn)
      clear BB
      have BB := BB_
      clear BB_
      clear hbn
      have A := hide Ax
      clear Ax
      have Ac0_1 := (unhide A).cell 0 rfl
      have Ac1_1 := (unhide A).cell 1 rfl
      have Ac2_1 := (unhide A).cell 2 rfl
      have Ac3_1 := (unhide A).cell 3 rfl
      have Ac4_1 := (unhide A).cell 4 rfl
      have Ac5_1 := (unhide A).cell 5 rfl
      have Ac6_1 := (unhide A).cell 6 rfl
      have Ac7_1 := (unhide A).cell 7 rfl
      go_enter Tryd.func23, Tryd.ntmps23
      go_wp2
      go_ret
      exact ⟨rfl, unhide BB⟩
set_option maxHeartbeats 4000000 in
set_option maxRecDepth 100000 in
theorem uses2 (box dst text : ByteArray) (n : Nat) (how bits since : Int) (a : Option Addr) (c : Nat) (w : World) (hs : n ≤ 1048576) :
    Calls Tryd.prog 23 #[.agg #[.int .i64 2, .string box, .string dst, .slice a n c, .int .i64 how, .int .i64 bits, .int .i64 since, .string text]] w fun x w' => x = .returned (.bool ((((((([] == dst.toList) && decide (n = 0)) && decide ((0 : Int) = how)) && decide ((0 : Int) = bits)) && decide ((0 : Int) = since)) && ([] == text.toList)))) ∧ Below w.heap.size w w' := by
  obtain ⟨R, hR⟩ : ∃ R, R = ((((((([] == dst.toList) && decide (n = 0)) && decide ((0 : Int) = how)) && decide ((0 : Int) = bits)) && decide ((0 : Int) = since)) && ([] == text.toList))) := ⟨_, rfl⟩
  rw [← hR]
  cases h_dst : ([] == dst.toList) with
  | false =>
    have g_dst := nil_beq h_dst
    have BB := hide (Below.refl w.heap.size w)
    have hA : R = false := by rw [hR]; simp [h_dst]
    clear hR
    subst hA
    obtain ⟨ws1, hA⟩ : ∃ X, X = w.alloc (.cells ([.int .i64 2, .string box, .string dst, .slice a n c, .int .i64 how, .int .i64 bits, .int .i64 since, .string text] : List Value).toArray 30) := ⟨_, rfl⟩
    have Ax : HasObj ws1 w.heap.size 30 [.int .i64 2, .string box, .string dst, .slice a n c, .int .i64 how, .int .i64 bits, .int .i64 since, .string text] := by rw [hA]; exact HasObj.new _ _ _
    have hbn : Below w.heap.size w ws1 := by rw [hA]; exact (Below.refl _ _).alloc (Nat.le_refl _) _
    have loA : w.heap.size ≤ w.heap.size := (unhide BB).size
    have EA := hA.symm
    clear hA
    have sz1 := hide (hbn.size)
    have BB_ := hide (below_y (unhide BB) hbn)
    clear BB
    have BB := BB_
    clear BB_
    clear hbn
    have A := hide Ax
    clear Ax
    have Ac0_1 := (unhide A).cell 0 rfl
    have Ac1_1 := (unhide A).cell 1 rfl
    have Ac2_1 := (unhide A).cell 2 rfl
    have Ac3_1 := (unhide A).cell 3 rfl
    have Ac4_1 := (unhide A).cell 4 rfl
    have Ac5_1 := (unhide A).cell 5 rfl
    have Ac6_1 := (unhide A).cell 6 rfl
    have Ac7_1 := (unhide A).cell 7 rfl
    go_enter Tryd.func23, Tryd.ntmps23
    go_wp2
    go_ret
    exact ⟨rfl, unhide BB⟩
  | true =>
    have g_dst := nil_beq h_dst
    by_cases h_set : n = 0
    · subst h_set
      by_cases h_how : (0 : Int) = how
      · subst h_how
        by_cases h_bits : (0 : Int) = bits
        · subst h_bits
          by_cases h_since : (0 : Int) = since
          · subst h_since
            cases h_text : ([] == text.toList) with
            | false =>
              have g_text := nil_beq h_text
              have BB := hide (Below.refl w.heap.size w)
              have hA : R = false := by rw [hR]; simp [h_dst, h_text]
              clear hR
              subst hA
              obtain ⟨ws1, hA⟩ : ∃ X, X = w.alloc (.cells ([.int .i64 2, .string box, .string dst, .slice a 0 c, .int .i64 0, .int .i64 0, .int .i64 0, .string text] : List Value).toArray 30) := ⟨_, rfl⟩
              have Ax : HasObj ws1 w.heap.size 30 [.int .i64 2, .string box, .string dst, .slice a 0 c, .int .i64 0, .int .i64 0, .int .i64 0, .string text] := by rw [hA]; exact HasObj.new _ _ _
              have hbn : Below w.heap.size w ws1 := by rw [hA]; exact (Below.refl _ _).alloc (Nat.le_refl _) _
              have loA : w.heap.size ≤ w.heap.size := (unhide BB).size
              have EA := hA.symm
              clear hA
              have sz1 := hide (hbn.size)
              have BB_ := hide (below_y (unhide BB) hbn)
              clear BB
              have BB := BB_
              clear BB_
              clear hbn
              have A := hide Ax
              clear Ax
              have Ac0_1 := (unhide A).cell 0 rfl
              have Ac1_1 := (unhide A).cell 1 rfl
              have Ac2_1 := (unhide A).cell 2 rfl
              have Ac3_1 := (unhide A).cell 3 rfl
              have Ac4_1 := (unhide A).cell 4 rfl
              have Ac5_1 := (unhide A).cell 5 rfl
              have Ac6_1 := (unhide A).cell 6 rfl
              have Ac7_1 := (unhide A).cell 7 rfl
              go_enter Tryd.func23, Tryd.ntmps23
              go_wp2
              go_ret
              exact ⟨rfl, unhide BB⟩
            | true =>
              have g_text := nil_beq h_text
              have BB := hide (Below.refl w.heap.size w)
              have hA : R = true := by rw [hR]; simp [h_dst, h_text]
              clear hR
              subst hA
              obtain ⟨ws1, hA⟩ : ∃ X, X = w.alloc (.cells ([.int .i64 2, .string box, .string dst, .slice a 0 c, .int .i64 0, .int .i64 0, .int .i64 0, .string text] : List Value).toArray 30) := ⟨_, rfl⟩
              have Ax : HasObj ws1 w.heap.size 30 [.int .i64 2, .string box, .string dst, .slice a 0 c, .int .i64 0, .int .i64 0, .int .i64 0, .string text] := by rw [hA]; exact HasObj.new _ _ _
              have hbn : Below w.heap.size w ws1 := by rw [hA]; exact (Below.refl _ _).alloc (Nat.le_refl _) _
              have loA : w.heap.size ≤ w.heap.size := (unhide BB).size
              have EA := hA.symm
              clear hA
              have sz1 := hide (hbn.size)
              have BB_ := hide (below_y (unhide BB) hbn)
              clear BB
              have BB := BB_
              clear BB_
              clear hbn
              have A := hide Ax
              clear Ax
              have Ac0_1 := (unhide A).cell 0 rfl
              have Ac1_1 := (unhide A).cell 1 rfl
              have Ac2_1 := (unhide A).cell 2 rfl
              have Ac3_1 := (unhide A).cell 3 rfl
              have Ac4_1 := (unhide A).cell 4 rfl
              have Ac5_1 := (unhide A).cell 5 rfl
              have Ac6_1 := (unhide A).cell 6 rfl
              have Ac7_1 := (unhide A).cell 7 rfl
              go_enter Tryd.func23, Tryd.ntmps23
              go_wp2
              go_ret
              exact ⟨rfl, unhide BB⟩
          · have g_since : ¬ (since = 0) := fun h => h_since h.symm
            have BB := hide (Below.refl w.heap.size w)
            have hA : R = false := by rw [hR]; simp [h_dst, h_since]
            clear hR
            subst hA
            obtain ⟨ws1, hA⟩ : ∃ X, X = w.alloc (.cells ([.int .i64 2, .string box, .string dst, .slice a 0 c, .int .i64 0, .int .i64 0, .int .i64 since, .string text] : List Value).toArray 30) := ⟨_, rfl⟩
            have Ax : HasObj ws1 w.heap.size 30 [.int .i64 2, .string box, .string dst, .slice a 0 c, .int .i64 0, .int .i64 0, .int .i64 since, .string text] := by rw [hA]; exact HasObj.new _ _ _
            have hbn : Below w.heap.size w ws1 := by rw [hA]; exact (Below.refl _ _).alloc (Nat.le_refl _) _
            have loA : w.heap.size ≤ w.heap.size := (unhide BB).size
            have EA := hA.symm
            clear hA
            have sz1 := hide (hbn.size)
            have BB_ := hide (below_y (unhide BB) hbn)
            clear BB
            have BB := BB_
            clear BB_
            clear hbn
            have A := hide Ax
            clear Ax
            have Ac0_1 := (unhide A).cell 0 rfl
            have Ac1_1 := (unhide A).cell 1 rfl
            have Ac2_1 := (unhide A).cell 2 rfl
            have Ac3_1 := (unhide A).cell 3 rfl
            have Ac4_1 := (unhide A).cell 4 rfl
            have Ac5_1 := (unhide A).cell 5 rfl
            have Ac6_1 := (unhide A).cell 6 rfl
            have Ac7_1 := (unhide A).cell 7 rfl
            go_enter Tryd.func23, Tryd.ntmps23
            go_wp2
            go_ret
            exact ⟨rfl, unhide BB⟩
        · have g_bits : ¬ (bits = 0) := fun h => h_bits h.symm
          have BB := hide (Below.refl w.heap.size w)
          have hA : R = false := by rw [hR]; simp [h_dst, h_bits]
          clear hR
          subst hA
          obtain ⟨ws1, hA⟩ : ∃ X, X = w.alloc (.cells ([.int .i64 2, .string box, .string dst, .slice a 0 c, .int .i64 0, .int .i64 bits, .int .i64 since, .string text] : List Value).toArray 30) := ⟨_, rfl⟩
          have Ax : HasObj ws1 w.heap.size 30 [.int .i64 2, .string box, .string dst, .slice a 0 c, .int .i64 0, .int .i64 bits, .int .i64 since, .string text] := by rw [hA]; exact HasObj.new _ _ _
          have hbn : Below w.heap.size w ws1 := by rw [hA]; exact (Below.refl _ _).alloc (Nat.le_refl _) _
          have loA : w.heap.size ≤ w.heap.size := (unhide BB).size
          have EA := hA.symm
          clear hA
          have sz1 := hide (hbn.size)
          have BB_ := hide (below_y (unhide BB) hbn)
          clear BB
          have BB := BB_
          clear BB_
          clear hbn
          have A := hide Ax
          clear Ax
          have Ac0_1 := (unhide A).cell 0 rfl
          have Ac1_1 := (unhide A).cell 1 rfl
          have Ac2_1 := (unhide A).cell 2 rfl
          have Ac3_1 := (unhide A).cell 3 rfl
          have Ac4_1 := (unhide A).cell 4 rfl
          have Ac5_1 := (unhide A).cell 5 rfl
          have Ac6_1 := (unhide A).cell 6 rfl
          have Ac7_1 := (unhide A).cell 7 rfl
          go_enter Tryd.func23, Tryd.ntmps23
          go_wp2
          go_ret
          exact ⟨rfl, unhide BB⟩
      · have g_how : ¬ (how = 0) := fun h => h_how h.symm
        have BB := hide (Below.refl w.heap.size w)
        have hA : R = false := by rw [hR]; simp [h_dst, h_how]
        clear hR
        subst hA
        obtain ⟨ws1, hA⟩ : ∃ X, X = w.alloc (.cells ([.int .i64 2, .string box, .string dst, .slice a 0 c, .int .i64 how, .int .i64 bits, .int .i64 since, .string text] : List Value).toArray 30) := ⟨_, rfl⟩
        have Ax : HasObj ws1 w.heap.size 30 [.int .i64 2, .string box, .string dst, .slice a 0 c, .int .i64 how, .int .i64 bits, .int .i64 since, .string text] := by rw [hA]; exact HasObj.new _ _ _
        have hbn : Below w.heap.size w ws1 := by rw [hA]; exact (Below.refl _ _).alloc (Nat.le_refl _) _
        have loA : w.heap.size ≤ w.heap.size := (unhide BB).size
        have EA := hA.symm
        clear hA
        have sz1 := hide (hbn.size)
        have BB_ := hide (below_y (unhide BB) hbn)
        clear BB
        have BB := BB_
        clear BB_
        clear hbn
        have A := hide Ax
        clear Ax
        have Ac0_1 := (unhide A).cell 0 rfl
        have Ac1_1 := (unhide A).cell 1 rfl
        have Ac2_1 := (unhide A).cell 2 rfl
        have Ac3_1 := (unhide A).cell 3 rfl
        have Ac4_1 := (unhide A).cell 4 rfl
        have Ac5_1 := (unhide A).cell 5 rfl
        have Ac6_1 := (unhide A).cell 6 rfl
        have Ac7_1 := (unhide A).cell 7 rfl
        go_enter Tryd.func23, Tryd.ntmps23
        go_wp2
        go_ret
        exact ⟨rfl, unhide BB⟩
    · have g_set : ¬ ((n : Int) = 0) := by omega
      have BB := hide (Below.refl w.heap.size w)
      have hA : R = false := by rw [hR]; simp [h_dst, h_set]
      clear hR
      subst hA
      obtain ⟨ws1, hA⟩ : ∃ X, X = w.alloc (.cells ([.int .i64 2, .string box, .string dst, .slice a n c, .int .i64 how, .int .i64 bits, .int .i64 since, .string text] : List Value).toArray 30) := ⟨_, rfl⟩
      have Ax : HasObj ws1 w.heap.size 30 [.int .i64 2, .string box, .string dst, .slice a n c, .int .i64 how, .int .i64 bits, .int .i64 since, .string text] := by rw [hA]; exact HasObj.new _ _ _
      have hbn : Below w.heap.size w ws1 := by rw [hA]; exact (Below.refl _ _).alloc (Nat.le_refl _) _
      have loA : w.heap.size ≤ w.heap.size := (unhide BB).size
      have EA := hA.symm
      clear hA
      have sz1 := hide (hbn.size)
      have BB_ := hide (below_y (unhide BB) hbn)
      clear BB
      have BB := BB_
      clear BB_
      clear hbn
      have A := hide Ax
      clear Ax
      have Ac0_1 := (unhide A).cell 0 rfl
      have Ac1_1 := (unhide A).cell 1 rfl
      have Ac2_1 := (unhide A).cell 2 rfl
      have Ac3_1 := (unhide A).cell 3 rfl
      have Ac4_1 := (unhide A).cell 4 rfl
      have Ac5_1 := (unhide A).cell 5 rfl
      have Ac6_1 := (unhide A).cell 6 rfl
      have Ac7_1 := (unhide A).cell 7 rfl
      go_enter Tryd.func23, Tryd.ntmps23
      go_wp2
      go_ret
      exact ⟨rfl, unhide BB⟩
set_option maxHeartbeats 4000000 in
set_option maxRecDepth 100000 in
theorem uses3 (box dst text : ByteArray) (n : Nat) (how bits since : Int) (a : Option Addr) (c : Nat) (w : World) (hs : n ≤ 1048576) :
    Calls Tryd.prog 23 #[.agg #[.int .i64 3, .string box, .string dst, .slice a n c, .int .i64 how, .int .i64 bits, .int .i64 since, .string text]] w fun x w' => x = .returned (.bool ((((([] == dst.toList) && decide (n = 0)) && decide ((0 : Int) = how)) && decide ((0 : Int) = since)))) ∧ Below w.heap.size w w' := by
  obtain ⟨R, hR⟩ : ∃ R, R = ((((([] == dst.toList) && decide (n = 0)) && decide ((0 : Int) = how)) && decide ((0 : Int) = since))) := ⟨_, rfl⟩
  rw [← hR]
  cases h_dst : ([] == dst.toList) with
  | false =>
    have g_dst := nil_beq h_dst
    have BB := hide (Below.refl w.heap.size w)
    have hA : R = false := by rw [hR]; simp [h_dst]
    clear hR
    subst hA
    obtain ⟨ws1, hA⟩ : ∃ X, X = w.alloc (.cells ([.int .i64 3, .string box, .string dst, .slice a n c, .int .i64 how, .int .i64 bits, .int .i64 since, .string text] : List Value).toArray 30) := ⟨_, rfl⟩
    have Ax : HasObj ws1 w.heap.size 30 [.int .i64 3, .string box, .string dst, .slice a n c, .int .i64 how, .int .i64 bits, .int .i64 since, .string text] := by rw [hA]; exact HasObj.new _ _ _
    have hbn : Below w.heap.size w ws1 := by rw [hA]; exact (Below.refl _ _).alloc (Nat.le_refl _) _
    have loA : w.heap.size ≤ w.heap.size := (unhide BB).size
    have EA := hA.symm
    clear hA
    have sz1 := hide (hbn.size)
    have BB_ := hide (below_y (unhide BB) hbn)
    clear BB
    have BB := BB_
    clear BB_
    clear hbn
    have A := hide Ax
    clear Ax
    have Ac0_1 := (unhide A).cell 0 rfl
    have Ac1_1 := (unhide A).cell 1 rfl
    have Ac2_1 := (unhide A).cell 2 rfl
    have Ac3_1 := (unhide A).cell 3 rfl
    have Ac4_1 := (unhide A).cell 4 rfl
    have Ac5_1 := (unhide A).cell 5 rfl
    have Ac6_1 := (unhide A).cell 6 rfl
    have Ac7_1 := (unhide A).cell 7 rfl
    go_enter Tryd.func23, Tryd.ntmps23
    go_wp2
    go_ret
    exact ⟨rfl, unhide BB⟩
  | true =>
    have g_dst := nil_beq h_dst
    by_cases h_set : n = 0
    · subst h_set
      by_cases h_how : (0 : Int) = how
      · subst h_how
        by_cases h_since : (0 : Int) = since
        · subst h_since
          have BB := hide (Below.refl w.heap.size w)
          have hA : R = true := by rw [hR]; simp [h_dst]
          clear hR
          subst hA
          obtain ⟨ws1, hA⟩ : ∃ X, X = w.alloc (.cells ([.int .i64 3, .string box, .string dst, .slice a 0 c, .int .i64 0, .int .i64 bits, .int .i64 0, .string text] : List Value).toArray 30) := ⟨_, rfl⟩
          have Ax : HasObj ws1 w.heap.size 30 [.int .i64 3, .string box, .string dst, .slice a 0 c, .int .i64 0, .int .i64 bits, .int .i64 0, .string text] := by rw [hA]; exact HasObj.new _ _ _
          have hbn : Below w.heap.size w ws1 := by rw [hA]; exact (Below.refl _ _).alloc (Nat.le_refl _) _
          have loA : w.heap.size ≤ w.heap.size := (unhide BB).size
          have EA := hA.symm
          clear hA
          have sz1 := hide (hbn.size)
          have BB_ := hide (below_y (unhide BB) hbn)
          clear BB
          have BB := BB_
          clear BB_
          clear hbn
          have A := hide Ax
          clear Ax
          have Ac0_1 := (unhide A).cell 0 rfl
          have Ac1_1 := (unhide A).cell 1 rfl
          have Ac2_1 := (unhide A).cell 2 rfl
          have Ac3_1 := (unhide A).cell 3 rfl
          have Ac4_1 := (unhide A).cell 4 rfl
          have Ac5_1 := (unhide A).cell 5 rfl
          have Ac6_1 := (unhide A).cell 6 rfl
          have Ac7_1 := (unhide A).cell 7 rfl
          go_enter Tryd.func23, Tryd.ntmps23
          go_wp2
          go_ret
          exact ⟨rfl, unhide BB⟩
        · have g_since : ¬ (since = 0) := fun h => h_since h.symm
          have BB := hide (Below.refl w.heap.size w)
          have hA : R = false := by rw [hR]; simp [h_dst, h_since]
          clear hR
          subst hA
          obtain ⟨ws1, hA⟩ : ∃ X, X = w.alloc (.cells ([.int .i64 3, .string box, .string dst, .slice a 0 c, .int .i64 0, .int .i64 bits, .int .i64 since, .string text] : List Value).toArray 30) := ⟨_, rfl⟩
          have Ax : HasObj ws1 w.heap.size 30 [.int .i64 3, .string box, .string dst, .slice a 0 c, .int .i64 0, .int .i64 bits, .int .i64 since, .string text] := by rw [hA]; exact HasObj.new _ _ _
          have hbn : Below w.heap.size w ws1 := by rw [hA]; exact (Below.refl _ _).alloc (Nat.le_refl _) _
          have loA : w.heap.size ≤ w.heap.size := (unhide BB).size
          have EA := hA.symm
          clear hA
          have sz1 := hide (hbn.size)
          have BB_ := hide (below_y (unhide BB) hbn)
          clear BB
          have BB := BB_
          clear BB_
          clear hbn
          have A := hide Ax
          clear Ax
          have Ac0_1 := (unhide A).cell 0 rfl
          have Ac1_1 := (unhide A).cell 1 rfl
          have Ac2_1 := (unhide A).cell 2 rfl
          have Ac3_1 := (unhide A).cell 3 rfl
          have Ac4_1 := (unhide A).cell 4 rfl
          have Ac5_1 := (unhide A).cell 5 rfl
          have Ac6_1 := (unhide A).cell 6 rfl
          have Ac7_1 := (unhide A).cell 7 rfl
          go_enter Tryd.func23, Tryd.ntmps23
          go_wp2
          go_ret
          exact ⟨rfl, unhide BB⟩
      · have g_how : ¬ (how = 0) := fun h => h_how h.symm
        have BB := hide (Below.refl w.heap.size w)
        have hA : R = false := by rw [hR]; simp [h_dst, h_how]
        clear hR
        subst hA
        obtain ⟨ws1, hA⟩ : ∃ X, X = w.alloc (.cells ([.int .i64 3, .string box, .string dst, .slice a 0 c, .int .i64 how, .int .i64 bits, .int .i64 since, .string text] : List Value).toArray 30) := ⟨_, rfl⟩
        have Ax : HasObj ws1 w.heap.size 30 [.int .i64 3, .string box, .string dst, .slice a 0 c, .int .i64 how, .int .i64 bits, .int .i64 since, .string text] := by rw [hA]; exact HasObj.new _ _ _
        have hbn : Below w.heap.size w ws1 := by rw [hA]; exact (Below.refl _ _).alloc (Nat.le_refl _) _
        have loA : w.heap.size ≤ w.heap.size := (unhide BB).size
        have EA := hA.symm
        clear hA
        have sz1 := hide (hbn.size)
        have BB_ := hide (below_y (unhide BB) hbn)
        clear BB
        have BB := BB_
        clear BB_
        clear hbn
        have A := hide Ax
        clear Ax
        have Ac0_1 := (unhide A).cell 0 rfl
        have Ac1_1 := (unhide A).cell 1 rfl
        have Ac2_1 := (unhide A).cell 2 rfl
        have Ac3_1 := (unhide A).cell 3 rfl
        have Ac4_1 := (unhide A).cell 4 rfl
        have Ac5_1 := (unhide A).cell 5 rfl
        have Ac6_1 := (unhide A).cell 6 rfl
        have Ac7_1 := (unhide A).cell 7 rfl
        go_enter Tryd.func23, Tryd.ntmps23
        go_wp2
        go_ret
        exact ⟨rfl, unhide BB⟩
    · have g_set : ¬ ((n : Int) = 0) := by omega
      have BB := hide (Below.refl w.heap.size w)
      have hA : R = false := by rw [hR]; simp [h_dst, h_set]
      clear hR
      subst hA
      obtain ⟨ws1, hA⟩ : ∃ X, X = w.alloc (.cells ([.int .i64 3, .string box, .string dst, .slice a n c, .int .i64 how, .int .i64 bits, .int .i64 since, .string text] : List Value).toArray 30) := ⟨_, rfl⟩
      have Ax : HasObj ws1 w.heap.size 30 [.int .i64 3, .string box, .string dst, .slice a n c, .int .i64 how, .int .i64 bits, .int .i64 since, .string text] := by rw [hA]; exact HasObj.new _ _ _
      have hbn : Below w.heap.size w ws1 := by rw [hA]; exact (Below.refl _ _).alloc (Nat.le_refl _) _
      have loA : w.heap.size ≤ w.heap.size := (unhide BB).size
      have EA := hA.symm
      clear hA
      have sz1 := hide (hbn.size)
      have BB_ := hide (below_y (unhide BB) hbn)
      clear BB
      have BB := BB_
      clear BB_
      clear hbn
      have A := hide Ax
      clear Ax
      have Ac0_1 := (unhide A).cell 0 rfl
      have Ac1_1 := (unhide A).cell 1 rfl
      have Ac2_1 := (unhide A).cell 2 rfl
      have Ac3_1 := (unhide A).cell 3 rfl
      have Ac4_1 := (unhide A).cell 4 rfl
      have Ac5_1 := (unhide A).cell 5 rfl
      have Ac6_1 := (unhide A).cell 6 rfl
      have Ac7_1 := (unhide A).cell 7 rfl
      go_enter Tryd.func23, Tryd.ntmps23
      go_wp2
      go_ret
      exact ⟨rfl, unhide BB⟩
set_option maxHeartbeats 4000000 in
set_option maxRecDepth 100000 in
theorem uses4 (box dst text : ByteArray) (n : Nat) (how bits since : Int) (a : Option Addr) (c : Nat) (w : World) (hs : n ≤ 1048576) :
    Calls Tryd.prog 23 #[.agg #[.int .i64 4, .string box, .string dst, .slice a n c, .int .i64 how, .int .i64 bits, .int .i64 since, .string text]] w fun x w' => x = .returned (.bool ((([] == dst.toList) && ([] == text.toList)))) ∧ Below w.heap.size w w' := by
  obtain ⟨R, hR⟩ : ∃ R, R = ((([] == dst.toList) && ([] == text.toList))) := ⟨_, rfl⟩
  rw [← hR]
  cases h_dst : ([] == dst.toList) with
  | false =>
    have g_dst := nil_beq h_dst
    have BB := hide (Below.refl w.heap.size w)
    have hA : R = false := by rw [hR]; simp [h_dst]
    clear hR
    subst hA
    obtain ⟨ws1, hA⟩ : ∃ X, X = w.alloc (.cells ([.int .i64 4, .string box, .string dst, .slice a n c, .int .i64 how, .int .i64 bits, .int .i64 since, .string text] : List Value).toArray 30) := ⟨_, rfl⟩
    have Ax : HasObj ws1 w.heap.size 30 [.int .i64 4, .string box, .string dst, .slice a n c, .int .i64 how, .int .i64 bits, .int .i64 since, .string text] := by rw [hA]; exact HasObj.new _ _ _
    have hbn : Below w.heap.size w ws1 := by rw [hA]; exact (Below.refl _ _).alloc (Nat.le_refl _) _
    have loA : w.heap.size ≤ w.heap.size := (unhide BB).size
    have EA := hA.symm
    clear hA
    have sz1 := hide (hbn.size)
    have BB_ := hide (below_y (unhide BB) hbn)
    clear BB
    have BB := BB_
    clear BB_
    clear hbn
    have A := hide Ax
    clear Ax
    have Ac0_1 := (unhide A).cell 0 rfl
    have Ac1_1 := (unhide A).cell 1 rfl
    have Ac2_1 := (unhide A).cell 2 rfl
    have Ac3_1 := (unhide A).cell 3 rfl
    have Ac4_1 := (unhide A).cell 4 rfl
    have Ac5_1 := (unhide A).cell 5 rfl
    have Ac6_1 := (unhide A).cell 6 rfl
    have Ac7_1 := (unhide A).cell 7 rfl
    go_enter Tryd.func23, Tryd.ntmps23
    go_wp2
    go_ret
    exact ⟨rfl, unhide BB⟩
  | true =>
    have g_dst := nil_beq h_dst
    cases h_text : ([] == text.toList) with
    | false =>
      have g_text := nil_beq h_text
      have BB := hide (Below.refl w.heap.size w)
      have hA : R = false := by rw [hR]; simp [h_dst, h_text]
      clear hR
      subst hA
      obtain ⟨ws1, hA⟩ : ∃ X, X = w.alloc (.cells ([.int .i64 4, .string box, .string dst, .slice a n c, .int .i64 how, .int .i64 bits, .int .i64 since, .string text] : List Value).toArray 30) := ⟨_, rfl⟩
      have Ax : HasObj ws1 w.heap.size 30 [.int .i64 4, .string box, .string dst, .slice a n c, .int .i64 how, .int .i64 bits, .int .i64 since, .string text] := by rw [hA]; exact HasObj.new _ _ _
      have hbn : Below w.heap.size w ws1 := by rw [hA]; exact (Below.refl _ _).alloc (Nat.le_refl _) _
      have loA : w.heap.size ≤ w.heap.size := (unhide BB).size
      have EA := hA.symm
      clear hA
      have sz1 := hide (hbn.size)
      have BB_ := hide (below_y (unhide BB) hbn)
      clear BB
      have BB := BB_
      clear BB_
      clear hbn
      have A := hide Ax
      clear Ax
      have Ac0_1 := (unhide A).cell 0 rfl
      have Ac1_1 := (unhide A).cell 1 rfl
      have Ac2_1 := (unhide A).cell 2 rfl
      have Ac3_1 := (unhide A).cell 3 rfl
      have Ac4_1 := (unhide A).cell 4 rfl
      have Ac5_1 := (unhide A).cell 5 rfl
      have Ac6_1 := (unhide A).cell 6 rfl
      have Ac7_1 := (unhide A).cell 7 rfl
      go_enter Tryd.func23, Tryd.ntmps23
      go_wp2
      go_ret
      exact ⟨rfl, unhide BB⟩
    | true =>
      have g_text := nil_beq h_text
      have BB := hide (Below.refl w.heap.size w)
      have hA : R = true := by rw [hR]; simp [h_dst, h_text]
      clear hR
      subst hA
      obtain ⟨ws1, hA⟩ : ∃ X, X = w.alloc (.cells ([.int .i64 4, .string box, .string dst, .slice a n c, .int .i64 how, .int .i64 bits, .int .i64 since, .string text] : List Value).toArray 30) := ⟨_, rfl⟩
      have Ax : HasObj ws1 w.heap.size 30 [.int .i64 4, .string box, .string dst, .slice a n c, .int .i64 how, .int .i64 bits, .int .i64 since, .string text] := by rw [hA]; exact HasObj.new _ _ _
      have hbn : Below w.heap.size w ws1 := by rw [hA]; exact (Below.refl _ _).alloc (Nat.le_refl _) _
      have loA : w.heap.size ≤ w.heap.size := (unhide BB).size
      have EA := hA.symm
      clear hA
      have sz1 := hide (hbn.size)
      have BB_ := hide (below_y (unhide BB) hbn)
      clear BB
      have BB := BB_
      clear BB_
      clear hbn
      have A := hide Ax
      clear Ax
      have Ac0_1 := (unhide A).cell 0 rfl
      have Ac1_1 := (unhide A).cell 1 rfl
      have Ac2_1 := (unhide A).cell 2 rfl
      have Ac3_1 := (unhide A).cell 3 rfl
      have Ac4_1 := (unhide A).cell 4 rfl
      have Ac5_1 := (unhide A).cell 5 rfl
      have Ac6_1 := (unhide A).cell 6 rfl
      have Ac7_1 := (unhide A).cell 7 rfl
      go_enter Tryd.func23, Tryd.ntmps23
      go_wp2
      go_ret
      exact ⟨rfl, unhide BB⟩
set_option maxHeartbeats 4000000 in
set_option maxRecDepth 100000 in
theorem uses5 (box dst text : ByteArray) (n : Nat) (how bits since : Int) (a : Option Addr) (c : Nat) (w : World) (hs : n ≤ 1048576) :
    Calls Tryd.prog 23 #[.agg #[.int .i64 5, .string box, .string dst, .slice a n c, .int .i64 how, .int .i64 bits, .int .i64 since, .string text]] w fun x w' => x = .returned (.bool (((((([] == dst.toList) && decide ((0 : Int) = how)) && decide ((0 : Int) = bits)) && decide ((0 : Int) = since)) && ([] == text.toList)))) ∧ Below w.heap.size w w' := by
  obtain ⟨R, hR⟩ : ∃ R, R = (((((([] == dst.toList) && decide ((0 : Int) = how)) && decide ((0 : Int) = bits)) && decide ((0 : Int) = since)) && ([] == text.toList))) := ⟨_, rfl⟩
  rw [← hR]
  cases h_dst : ([] == dst.toList) with
  | false =>
    have g_dst := nil_beq h_dst
    have BB := hide (Below.refl w.heap.size w)
    have hA : R = false := by rw [hR]; simp [h_dst]
    clear hR
    subst hA
    obtain ⟨ws1, hA⟩ : ∃ X, X = w.alloc (.cells ([.int .i64 5, .string box, .string dst, .slice a n c, .int .i64 how, .int .i64 bits, .int .i64 since, .string text] : List Value).toArray 30) := ⟨_, rfl⟩
    have Ax : HasObj ws1 w.heap.size 30 [.int .i64 5, .string box, .string dst, .slice a n c, .int .i64 how, .int .i64 bits, .int .i64 since, .string text] := by rw [hA]; exact HasObj.new _ _ _
    have hbn : Below w.heap.size w ws1 := by rw [hA]; exact (Below.refl _ _).alloc (Nat.le_refl _) _
    have loA : w.heap.size ≤ w.heap.size := (unhide BB).size
    have EA := hA.symm
    clear hA
    have sz1 := hide (hbn.size)
    have BB_ := hide (below_y (unhide BB) hbn)
    clear BB
    have BB := BB_
    clear BB_
    clear hbn
    have A := hide Ax
    clear Ax
    have Ac0_1 := (unhide A).cell 0 rfl
    have Ac1_1 := (unhide A).cell 1 rfl
    have Ac2_1 := (unhide A).cell 2 rfl
    have Ac3_1 := (unhide A).cell 3 rfl
    have Ac4_1 := (unhide A).cell 4 rfl
    have Ac5_1 := (unhide A).cell 5 rfl
    have Ac6_1 := (unhide A).cell 6 rfl
    have Ac7_1 := (unhide A).cell 7 rfl
    go_enter Tryd.func23, Tryd.ntmps23
    go_wp2
    go_ret
    exact ⟨rfl, unhide BB⟩
  | true =>
    have g_dst := nil_beq h_dst
    by_cases h_how : (0 : Int) = how
    · subst h_how
      by_cases h_bits : (0 : Int) = bits
      · subst h_bits
        by_cases h_since : (0 : Int) = since
        · subst h_since
          cases h_text : ([] == text.toList) with
          | false =>
            have g_text := nil_beq h_text
            have BB := hide (Below.refl w.heap.size w)
            have hA : R = false := by rw [hR]; simp [h_dst, h_text]
            clear hR
            subst hA
            obtain ⟨ws1, hA⟩ : ∃ X, X = w.alloc (.cells ([.int .i64 5, .string box, .string dst, .slice a n c, .int .i64 0, .int .i64 0, .int .i64 0, .string text] : List Value).toArray 30) := ⟨_, rfl⟩
            have Ax : HasObj ws1 w.heap.size 30 [.int .i64 5, .string box, .string dst, .slice a n c, .int .i64 0, .int .i64 0, .int .i64 0, .string text] := by rw [hA]; exact HasObj.new _ _ _
            have hbn : Below w.heap.size w ws1 := by rw [hA]; exact (Below.refl _ _).alloc (Nat.le_refl _) _
            have loA : w.heap.size ≤ w.heap.size := (unhide BB).size
            have EA := hA.symm
            clear hA
            have sz1 := hide (hbn.size)
            have BB_ := hide (below_y (unhide BB) hbn)
            clear BB
            have BB := BB_
            clear BB_
            clear hbn
            have A := hide Ax
            clear Ax
            have Ac0_1 := (unhide A).cell 0 rfl
            have Ac1_1 := (unhide A).cell 1 rfl
            have Ac2_1 := (unhide A).cell 2 rfl
            have Ac3_1 := (unhide A).cell 3 rfl
            have Ac4_1 := (unhide A).cell 4 rfl
            have Ac5_1 := (unhide A).cell 5 rfl
            have Ac6_1 := (unhide A).cell 6 rfl
            have Ac7_1 := (unhide A).cell 7 rfl
            go_enter Tryd.func23, Tryd.ntmps23
            go_wp2
            go_ret
            exact ⟨rfl, unhide BB⟩
          | true =>
            have g_text := nil_beq h_text
            have BB := hide (Below.refl w.heap.size w)
            have hA : R = true := by rw [hR]; simp [h_dst, h_text]
            clear hR
            subst hA
            obtain ⟨ws1, hA⟩ : ∃ X, X = w.alloc (.cells ([.int .i64 5, .string box, .string dst, .slice a n c, .int .i64 0, .int .i64 0, .int .i64 0, .string text] : List Value).toArray 30) := ⟨_, rfl⟩
            have Ax : HasObj ws1 w.heap.size 30 [.int .i64 5, .string box, .string dst, .slice a n c, .int .i64 0, .int .i64 0, .int .i64 0, .string text] := by rw [hA]; exact HasObj.new _ _ _
            have hbn : Below w.heap.size w ws1 := by rw [hA]; exact (Below.refl _ _).alloc (Nat.le_refl _) _
            have loA : w.heap.size ≤ w.heap.size := (unhide BB).size
            have EA := hA.symm
            clear hA
            have sz1 := hide (hbn.size)
            have BB_ := hide (below_y (unhide BB) hbn)
            clear BB
            have BB := BB_
            clear BB_
            clear hbn
            have A := hide Ax
            clear Ax
            have Ac0_1 := (unhide A).cell 0 rfl
            have Ac1_1 := (unhide A).cell 1 rfl
            have Ac2_1 := (unhide A).cell 2 rfl
            have Ac3_1 := (unhide A).cell 3 rfl
            have Ac4_1 := (unhide A).cell 4 rfl
            have Ac5_1 := (unhide A).cell 5 rfl
            have Ac6_1 := (unhide A).cell 6 rfl
            have Ac7_1 := (unhide A).cell 7 rfl
            go_enter Tryd.func23, Tryd.ntmps23
            go_wp2
            go_ret
            exact ⟨rfl, unhide BB⟩
        · have g_since : ¬ (since = 0) := fun h => h_since h.symm
          have BB := hide (Below.refl w.heap.size w)
          have hA : R = false := by rw [hR]; simp [h_dst, h_since]
          clear hR
          subst hA
          obtain ⟨ws1, hA⟩ : ∃ X, X = w.alloc (.cells ([.int .i64 5, .string box, .string dst, .slice a n c, .int .i64 0, .int .i64 0, .int .i64 since, .string text] : List Value).toArray 30) := ⟨_, rfl⟩
          have Ax : HasObj ws1 w.heap.size 30 [.int .i64 5, .string box, .string dst, .slice a n c, .int .i64 0, .int .i64 0, .int .i64 since, .string text] := by rw [hA]; exact HasObj.new _ _ _
          have hbn : Below w.heap.size w ws1 := by rw [hA]; exact (Below.refl _ _).alloc (Nat.le_refl _) _
          have loA : w.heap.size ≤ w.heap.size := (unhide BB).size
          have EA := hA.symm
          clear hA
          have sz1 := hide (hbn.size)
          have BB_ := hide (below_y (unhide BB) hbn)
          clear BB
          have BB := BB_
          clear BB_
          clear hbn
          have A := hide Ax
          clear Ax
          have Ac0_1 := (unhide A).cell 0 rfl
          have Ac1_1 := (unhide A).cell 1 rfl
          have Ac2_1 := (unhide A).cell 2 rfl
          have Ac3_1 := (unhide A).cell 3 rfl
          have Ac4_1 := (unhide A).cell 4 rfl
          have Ac5_1 := (unhide A).cell 5 rfl
          have Ac6_1 := (unhide A).cell 6 rfl
          have Ac7_1 := (unhide A).cell 7 rfl
          go_enter Tryd.func23, Tryd.ntmps23
          go_wp2
          go_ret
          exact ⟨rfl, unhide BB⟩
      · have g_bits : ¬ (bits = 0) := fun h => h_bits h.symm
        have BB := hide (Below.refl w.heap.size w)
        have hA : R = false := by rw [hR]; simp [h_dst, h_bits]
        clear hR
        subst hA
        obtain ⟨ws1, hA⟩ : ∃ X, X = w.alloc (.cells ([.int .i64 5, .string box, .string dst, .slice a n c, .int .i64 0, .int .i64 bits, .int .i64 since, .string text] : List Value).toArray 30) := ⟨_, rfl⟩
        have Ax : HasObj ws1 w.heap.size 30 [.int .i64 5, .string box, .string dst, .slice a n c, .int .i64 0, .int .i64 bits, .int .i64 since, .string text] := by rw [hA]; exact HasObj.new _ _ _
        have hbn : Below w.heap.size w ws1 := by rw [hA]; exact (Below.refl _ _).alloc (Nat.le_refl _) _
        have loA : w.heap.size ≤ w.heap.size := (unhide BB).size
        have EA := hA.symm
        clear hA
        have sz1 := hide (hbn.size)
        have BB_ := hide (below_y (unhide BB) hbn)
        clear BB
        have BB := BB_
        clear BB_
        clear hbn
        have A := hide Ax
        clear Ax
        have Ac0_1 := (unhide A).cell 0 rfl
        have Ac1_1 := (unhide A).cell 1 rfl
        have Ac2_1 := (unhide A).cell 2 rfl
        have Ac3_1 := (unhide A).cell 3 rfl
        have Ac4_1 := (unhide A).cell 4 rfl
        have Ac5_1 := (unhide A).cell 5 rfl
        have Ac6_1 := (unhide A).cell 6 rfl
        have Ac7_1 := (unhide A).cell 7 rfl
        go_enter Tryd.func23, Tryd.ntmps23
        go_wp2
        go_ret
        exact ⟨rfl, unhide BB⟩
    · have g_how : ¬ (how = 0) := fun h => h_how h.symm
      have BB := hide (Below.refl w.heap.size w)
      have hA : R = false := by rw [hR]; simp [h_dst, h_how]
      clear hR
      subst hA
      obtain ⟨ws1, hA⟩ : ∃ X, X = w.alloc (.cells ([.int .i64 5, .string box, .string dst, .slice a n c, .int .i64 how, .int .i64 bits, .int .i64 since, .string text] : List Value).toArray 30) := ⟨_, rfl⟩
      have Ax : HasObj ws1 w.heap.size 30 [.int .i64 5, .string box, .string dst, .slice a n c, .int .i64 how, .int .i64 bits, .int .i64 since, .string text] := by rw [hA]; exact HasObj.new _ _ _
      have hbn : Below w.heap.size w ws1 := by rw [hA]; exact (Below.refl _ _).alloc (Nat.le_refl _) _
      have loA : w.heap.size ≤ w.heap.size := (unhide BB).size
      have EA := hA.symm
      clear hA
      have sz1 := hide (hbn.size)
      have BB_ := hide (below_y (unhide BB) hbn)
      clear BB
      have BB := BB_
      clear BB_
      clear hbn
      have A := hide Ax
      clear Ax
      have Ac0_1 := (unhide A).cell 0 rfl
      have Ac1_1 := (unhide A).cell 1 rfl
      have Ac2_1 := (unhide A).cell 2 rfl
      have Ac3_1 := (unhide A).cell 3 rfl
      have Ac4_1 := (unhide A).cell 4 rfl
      have Ac5_1 := (unhide A).cell 5 rfl
      have Ac6_1 := (unhide A).cell 6 rfl
      have Ac7_1 := (unhide A).cell 7 rfl
      go_enter Tryd.func23, Tryd.ntmps23
      go_wp2
      go_ret
      exact ⟨rfl, unhide BB⟩
set_option maxHeartbeats 4000000 in
set_option maxRecDepth 100000 in
theorem uses6 (box dst text : ByteArray) (n : Nat) (how bits since : Int) (a : Option Addr) (c : Nat) (w : World) (hs : n ≤ 1048576) :
    Calls Tryd.prog 23 #[.agg #[.int .i64 6, .string box, .string dst, .slice a n c, .int .i64 how, .int .i64 bits, .int .i64 since, .string text]] w fun x w' => x = .returned (.bool ((((decide ((0 : Int) = how) && decide ((0 : Int) = bits)) && decide ((0 : Int) = since)) && ([] == text.toList)))) ∧ Below w.heap.size w w' := by
  obtain ⟨R, hR⟩ : ∃ R, R = ((((decide ((0 : Int) = how) && decide ((0 : Int) = bits)) && decide ((0 : Int) = since)) && ([] == text.toList))) := ⟨_, rfl⟩
  rw [← hR]
  by_cases h_how : (0 : Int) = how
  · subst h_how
    by_cases h_bits : (0 : Int) = bits
    · subst h_bits
      by_cases h_since : (0 : Int) = since
      · subst h_since
        cases h_text : ([] == text.toList) with
        | false =>
          have g_text := nil_beq h_text
          have BB := hide (Below.refl w.heap.size w)
          have hA : R = false := by rw [hR]; simp [h_text]
          clear hR
          subst hA
          obtain ⟨ws1, hA⟩ : ∃ X, X = w.alloc (.cells ([.int .i64 6, .string box, .string dst, .slice a n c, .int .i64 0, .int .i64 0, .int .i64 0, .string text] : List Value).toArray 30) := ⟨_, rfl⟩
          have Ax : HasObj ws1 w.heap.size 30 [.int .i64 6, .string box, .string dst, .slice a n c, .int .i64 0, .int .i64 0, .int .i64 0, .string text] := by rw [hA]; exact HasObj.new _ _ _
          have hbn : Below w.heap.size w ws1 := by rw [hA]; exact (Below.refl _ _).alloc (Nat.le_refl _) _
          have loA : w.heap.size ≤ w.heap.size := (unhide BB).size
          have EA := hA.symm
          clear hA
          have sz1 := hide (hbn.size)
          have BB_ := hide (below_y (unhide BB) hbn)
          clear BB
          have BB := BB_
          clear BB_
          clear hbn
          have A := hide Ax
          clear Ax
          have Ac0_1 := (unhide A).cell 0 rfl
          have Ac1_1 := (unhide A).cell 1 rfl
          have Ac2_1 := (unhide A).cell 2 rfl
          have Ac3_1 := (unhide A).cell 3 rfl
          have Ac4_1 := (unhide A).cell 4 rfl
          have Ac5_1 := (unhide A).cell 5 rfl
          have Ac6_1 := (unhide A).cell 6 rfl
          have Ac7_1 := (unhide A).cell 7 rfl
          go_enter Tryd.func23, Tryd.ntmps23
          go_wp2
          go_ret
          exact ⟨rfl, unhide BB⟩
        | true =>
          have g_text := nil_beq h_text
          have BB := hide (Below.refl w.heap.size w)
          have hA : R = true := by rw [hR]; simp [h_text]
          clear hR
          subst hA
          obtain ⟨ws1, hA⟩ : ∃ X, X = w.alloc (.cells ([.int .i64 6, .string box, .string dst, .slice a n c, .int .i64 0, .int .i64 0, .int .i64 0, .string text] : List Value).toArray 30) := ⟨_, rfl⟩
          have Ax : HasObj ws1 w.heap.size 30 [.int .i64 6, .string box, .string dst, .slice a n c, .int .i64 0, .int .i64 0, .int .i64 0, .string text] := by rw [hA]; exact HasObj.new _ _ _
          have hbn : Below w.heap.size w ws1 := by rw [hA]; exact (Below.refl _ _).alloc (Nat.le_refl _) _
          have loA : w.heap.size ≤ w.heap.size := (unhide BB).size
          have EA := hA.symm
          clear hA
          have sz1 := hide (hbn.size)
          have BB_ := hide (below_y (unhide BB) hbn)
          clear BB
          have BB := BB_
          clear BB_
          clear hbn
          have A := hide Ax
          clear Ax
          have Ac0_1 := (unhide A).cell 0 rfl
          have Ac1_1 := (unhide A).cell 1 rfl
          have Ac2_1 := (unhide A).cell 2 rfl
          have Ac3_1 := (unhide A).cell 3 rfl
          have Ac4_1 := (unhide A).cell 4 rfl
          have Ac5_1 := (unhide A).cell 5 rfl
          have Ac6_1 := (unhide A).cell 6 rfl
          have Ac7_1 := (unhide A).cell 7 rfl
          go_enter Tryd.func23, Tryd.ntmps23
          go_wp2
          go_ret
          exact ⟨rfl, unhide BB⟩
      · have g_since : ¬ (since = 0) := fun h => h_since h.symm
        have BB := hide (Below.refl w.heap.size w)
        have hA : R = false := by rw [hR]; simp [h_since]
        clear hR
        subst hA
        obtain ⟨ws1, hA⟩ : ∃ X, X = w.alloc (.cells ([.int .i64 6, .string box, .string dst, .slice a n c, .int .i64 0, .int .i64 0, .int .i64 since, .string text] : List Value).toArray 30) := ⟨_, rfl⟩
        have Ax : HasObj ws1 w.heap.size 30 [.int .i64 6, .string box, .string dst, .slice a n c, .int .i64 0, .int .i64 0, .int .i64 since, .string text] := by rw [hA]; exact HasObj.new _ _ _
        have hbn : Below w.heap.size w ws1 := by rw [hA]; exact (Below.refl _ _).alloc (Nat.le_refl _) _
        have loA : w.heap.size ≤ w.heap.size := (unhide BB).size
        have EA := hA.symm
        clear hA
        have sz1 := hide (hbn.size)
        have BB_ := hide (below_y (unhide BB) hbn)
        clear BB
        have BB := BB_
        clear BB_
        clear hbn
        have A := hide Ax
        clear Ax
        have Ac0_1 := (unhide A).cell 0 rfl
        have Ac1_1 := (unhide A).cell 1 rfl
        have Ac2_1 := (unhide A).cell 2 rfl
        have Ac3_1 := (unhide A).cell 3 rfl
        have Ac4_1 := (unhide A).cell 4 rfl
        have Ac5_1 := (unhide A).cell 5 rfl
        have Ac6_1 := (unhide A).cell 6 rfl
        have Ac7_1 := (unhide A).cell 7 rfl
        go_enter Tryd.func23, Tryd.ntmps23
        go_wp2
        go_ret
        exact ⟨rfl, unhide BB⟩
    · have g_bits : ¬ (bits = 0) := fun h => h_bits h.symm
      have BB := hide (Below.refl w.heap.size w)
      have hA : R = false := by rw [hR]; simp [h_bits]
      clear hR
      subst hA
      obtain ⟨ws1, hA⟩ : ∃ X, X = w.alloc (.cells ([.int .i64 6, .string box, .string dst, .slice a n c, .int .i64 0, .int .i64 bits, .int .i64 since, .string text] : List Value).toArray 30) := ⟨_, rfl⟩
      have Ax : HasObj ws1 w.heap.size 30 [.int .i64 6, .string box, .string dst, .slice a n c, .int .i64 0, .int .i64 bits, .int .i64 since, .string text] := by rw [hA]; exact HasObj.new _ _ _
      have hbn : Below w.heap.size w ws1 := by rw [hA]; exact (Below.refl _ _).alloc (Nat.le_refl _) _
      have loA : w.heap.size ≤ w.heap.size := (unhide BB).size
      have EA := hA.symm
      clear hA
      have sz1 := hide (hbn.size)
      have BB_ := hide (below_y (unhide BB) hbn)
      clear BB
      have BB := BB_
      clear BB_
      clear hbn
      have A := hide Ax
      clear Ax
      have Ac0_1 := (unhide A).cell 0 rfl
      have Ac1_1 := (unhide A).cell 1 rfl
      have Ac2_1 := (unhide A).cell 2 rfl
      have Ac3_1 := (unhide A).cell 3 rfl
      have Ac4_1 := (unhide A).cell 4 rfl
      have Ac5_1 := (unhide A).cell 5 rfl
      have Ac6_1 := (unhide A).cell 6 rfl
      have Ac7_1 := (unhide A).cell 7 rfl
      go_enter Tryd.func23, Tryd.ntmps23
      go_wp2
      go_ret
      exact ⟨rfl, unhide BB⟩
  · have g_how : ¬ (how = 0) := fun h => h_how h.symm
    have BB := hide (Below.refl w.heap.size w)
    have hA : R = false := by rw [hR]; simp [h_how]
    clear hR
    subst hA
    obtain ⟨ws1, hA⟩ : ∃ X, X = w.alloc (.cells ([.int .i64 6, .string box, .string dst, .slice a n c, .int .i64 how, .int .i64 bits, .int .i64 since, .string text] : List Value).toArray 30) := ⟨_, rfl⟩
    have Ax : HasObj ws1 w.heap.size 30 [.int .i64 6, .string box, .string dst, .slice a n c, .int .i64 how, .int .i64 bits, .int .i64 since, .string text] := by rw [hA]; exact HasObj.new _ _ _
    have hbn : Below w.heap.size w ws1 := by rw [hA]; exact (Below.refl _ _).alloc (Nat.le_refl _) _
    have loA : w.heap.size ≤ w.heap.size := (unhide BB).size
    have EA := hA.symm
    clear hA
    have sz1 := hide (hbn.size)
    have BB_ := hide (below_y (unhide BB) hbn)
    clear BB
    have BB := BB_
    clear BB_
    clear hbn
    have A := hide Ax
    clear Ax
    have Ac0_1 := (unhide A).cell 0 rfl
    have Ac1_1 := (unhide A).cell 1 rfl
    have Ac2_1 := (unhide A).cell 2 rfl
    have Ac3_1 := (unhide A).cell 3 rfl
    have Ac4_1 := (unhide A).cell 4 rfl
    have Ac5_1 := (unhide A).cell 5 rfl
    have Ac6_1 := (unhide A).cell 6 rfl
    have Ac7_1 := (unhide A).cell 7 rfl
    go_enter Tryd.func23, Tryd.ntmps23
    go_wp2
    go_ret
    exact ⟨rfl, unhide BB⟩
set_option maxHeartbeats 4000000 in
set_option maxRecDepth 100000 in
theorem uses7 (box dst text : ByteArray) (n : Nat) (how bits since : Int) (a : Option Addr) (c : Nat) (w : World) (hs : n ≤ 1048576) :
    Calls Tryd.prog 23 #[.agg #[.int .i64 7, .string box, .string dst, .slice a n c, .int .i64 how, .int .i64 bits, .int .i64 since, .string text]] w fun x w' => x = .returned (.bool ((((decide ((0 : Int) = how) && decide ((0 : Int) = bits)) && decide ((0 : Int) = since)) && ([] == text.toList)))) ∧ Below w.heap.size w w' := by
  obtain ⟨R, hR⟩ : ∃ R, R = ((((decide ((0 : Int) = how) && decide ((0 : Int) = bits)) && decide ((0 : Int) = since)) && ([] == text.toList))) := ⟨_, rfl⟩
  rw [← hR]
  by_cases h_how : (0 : Int) = how
  · subst h_how
    by_cases h_bits : (0 : Int) = bits
    · subst h_bits
      by_cases h_since : (0 : Int) = since
      · subst h_since
        cases h_text : ([] == text.toList) with
        | false =>
          have g_text := nil_beq h_text
          have BB := hide (Below.refl w.heap.size w)
          have hA : R = false := by rw [hR]; simp [h_text]
          clear hR
          subst hA
          obtain ⟨ws1, hA⟩ : ∃ X, X = w.alloc (.cells ([.int .i64 7, .string box, .string dst, .slice a n c, .int .i64 0, .int .i64 0, .int .i64 0, .string text] : List Value).toArray 30) := ⟨_, rfl⟩
          have Ax : HasObj ws1 w.heap.size 30 [.int .i64 7, .string box, .string dst, .slice a n c, .int .i64 0, .int .i64 0, .int .i64 0, .string text] := by rw [hA]; exact HasObj.new _ _ _
          have hbn : Below w.heap.size w ws1 := by rw [hA]; exact (Below.refl _ _).alloc (Nat.le_refl _) _
          have loA : w.heap.size ≤ w.heap.size := (unhide BB).size
          have EA := hA.symm
          clear hA
          have sz1 := hide (hbn.size)
          have BB_ := hide (below_y (unhide BB) hbn)
          clear BB
          have BB := BB_
          clear BB_
          clear hbn
          have A := hide Ax
          clear Ax
          have Ac0_1 := (unhide A).cell 0 rfl
          have Ac1_1 := (unhide A).cell 1 rfl
          have Ac2_1 := (unhide A).cell 2 rfl
          have Ac3_1 := (unhide A).cell 3 rfl
          have Ac4_1 := (unhide A).cell 4 rfl
          have Ac5_1 := (unhide A).cell 5 rfl
          have Ac6_1 := (unhide A).cell 6 rfl
          have Ac7_1 := (unhide A).cell 7 rfl
          go_enter Tryd.func23, Tryd.ntmps23
          go_wp2
          go_ret
          exact ⟨rfl, unhide BB⟩
        | true =>
          have g_text := nil_beq h_text
          have BB := hide (Below.refl w.heap.size w)
          have hA : R = true := by rw [hR]; simp [h_text]
          clear hR
          subst hA
          obtain ⟨ws1, hA⟩ : ∃ X, X = w.alloc (.cells ([.int .i64 7, .string box, .string dst, .slice a n c, .int .i64 0, .int .i64 0, .int .i64 0, .string text] : List Value).toArray 30) := ⟨_, rfl⟩
          have Ax : HasObj ws1 w.heap.size 30 [.int .i64 7, .string box, .string dst, .slice a n c, .int .i64 0, .int .i64 0, .int .i64 0, .string text] := by rw [hA]; exact HasObj.new _ _ _
          have hbn : Below w.heap.size w ws1 := by rw [hA]; exact (Below.refl _ _).alloc (Nat.le_refl _) _
          have loA : w.heap.size ≤ w.heap.size := (unhide BB).size
          have EA := hA.symm
          clear hA
          have sz1 := hide (hbn.size)
          have BB_ := hide (below_y (unhide BB) hbn)
          clear BB
          have BB := BB_
          clear BB_
          clear hbn
          have A := hide Ax
          clear Ax
          have Ac0_1 := (unhide A).cell 0 rfl
          have Ac1_1 := (unhide A).cell 1 rfl
          have Ac2_1 := (unhide A).cell 2 rfl
          have Ac3_1 := (unhide A).cell 3 rfl
          have Ac4_1 := (unhide A).cell 4 rfl
          have Ac5_1 := (unhide A).cell 5 rfl
          have Ac6_1 := (unhide A).cell 6 rfl
          have Ac7_1 := (unhide A).cell 7 rfl
          go_enter Tryd.func23, Tryd.ntmps23
          go_wp2
          go_ret
          exact ⟨rfl, unhide BB⟩
      · have g_since : ¬ (since = 0) := fun h => h_since h.symm
        have BB := hide (Below.refl w.heap.size w)
        have hA : R = false := by rw [hR]; simp [h_since]
        clear hR
        subst hA
        obtain ⟨ws1, hA⟩ : ∃ X, X = w.alloc (.cells ([.int .i64 7, .string box, .string dst, .slice a n c, .int .i64 0, .int .i64 0, .int .i64 since, .string text] : List Value).toArray 30) := ⟨_, rfl⟩
        have Ax : HasObj ws1 w.heap.size 30 [.int .i64 7, .string box, .string dst, .slice a n c, .int .i64 0, .int .i64 0, .int .i64 since, .string text] := by rw [hA]; exact HasObj.new _ _ _
        have hbn : Below w.heap.size w ws1 := by rw [hA]; exact (Below.refl _ _).alloc (Nat.le_refl _) _
        have loA : w.heap.size ≤ w.heap.size := (unhide BB).size
        have EA := hA.symm
        clear hA
        have sz1 := hide (hbn.size)
        have BB_ := hide (below_y (unhide BB) hbn)
        clear BB
        have BB := BB_
        clear BB_
        clear hbn
        have A := hide Ax
        clear Ax
        have Ac0_1 := (unhide A).cell 0 rfl
        have Ac1_1 := (unhide A).cell 1 rfl
        have Ac2_1 := (unhide A).cell 2 rfl
        have Ac3_1 := (unhide A).cell 3 rfl
        have Ac4_1 := (unhide A).cell 4 rfl
        have Ac5_1 := (unhide A).cell 5 rfl
        have Ac6_1 := (unhide A).cell 6 rfl
        have Ac7_1 := (unhide A).cell 7 rfl
        go_enter Tryd.func23, Tryd.ntmps23
        go_wp2
        go_ret
        exact ⟨rfl, unhide BB⟩
    · have g_bits : ¬ (bits = 0) := fun h => h_bits h.symm
      have BB := hide (Below.refl w.heap.size w)
      have hA : R = false := by rw [hR]; simp [h_bits]
      clear hR
      subst hA
      obtain ⟨ws1, hA⟩ : ∃ X, X = w.alloc (.cells ([.int .i64 7, .string box, .string dst, .slice a n c, .int .i64 0, .int .i64 bits, .int .i64 since, .string text] : List Value).toArray 30) := ⟨_, rfl⟩
      have Ax : HasObj ws1 w.heap.size 30 [.int .i64 7, .string box, .string dst, .slice a n c, .int .i64 0, .int .i64 bits, .int .i64 since, .string text] := by rw [hA]; exact HasObj.new _ _ _
      have hbn : Below w.heap.size w ws1 := by rw [hA]; exact (Below.refl _ _).alloc (Nat.le_refl _) _
      have loA : w.heap.size ≤ w.heap.size := (unhide BB).size
      have EA := hA.symm
      clear hA
      have sz1 := hide (hbn.size)
      have BB_ := hide (below_y (unhide BB) hbn)
      clear BB
      have BB := BB_
      clear BB_
      clear hbn
      have A := hide Ax
      clear Ax
      have Ac0_1 := (unhide A).cell 0 rfl
      have Ac1_1 := (unhide A).cell 1 rfl
      have Ac2_1 := (unhide A).cell 2 rfl
      have Ac3_1 := (unhide A).cell 3 rfl
      have Ac4_1 := (unhide A).cell 4 rfl
      have Ac5_1 := (unhide A).cell 5 rfl
      have Ac6_1 := (unhide A).cell 6 rfl
      have Ac7_1 := (unhide A).cell 7 rfl
      go_enter Tryd.func23, Tryd.ntmps23
      go_wp2
      go_ret
      exact ⟨rfl, unhide BB⟩
  · have g_how : ¬ (how = 0) := fun h => h_how h.symm
    have BB := hide (Below.refl w.heap.size w)
    have hA : R = false := by rw [hR]; simp [h_how]
    clear hR
    subst hA
    obtain ⟨ws1, hA⟩ : ∃ X, X = w.alloc (.cells ([.int .i64 7, .string box, .string dst, .slice a n c, .int .i64 how, .int .i64 bits, .int .i64 since, .string text] : List Value).toArray 30) := ⟨_, rfl⟩
    have Ax : HasObj ws1 w.heap.size 30 [.int .i64 7, .string box, .string dst, .slice a n c, .int .i64 how, .int .i64 bits, .int .i64 since, .string text] := by rw [hA]; exact HasObj.new _ _ _
    have hbn : Below w.heap.size w ws1 := by rw [hA]; exact (Below.refl _ _).alloc (Nat.le_refl _) _
    have loA : w.heap.size ≤ w.heap.size := (unhide BB).size
    have EA := hA.symm
    clear hA
    have sz1 := hide (hbn.size)
    have BB_ := hide (below_y (unhide BB) hbn)
    clear BB
    have BB := BB_
    clear BB_
    clear hbn
    have A := hide Ax
    clear Ax
    have Ac0_1 := (unhide A).cell 0 rfl
    have Ac1_1 := (unhide A).cell 1 rfl
    have Ac2_1 := (unhide A).cell 2 rfl
    have Ac3_1 := (unhide A).cell 3 rfl
    have Ac4_1 := (unhide A).cell 4 rfl
    have Ac5_1 := (unhide A).cell 5 rfl
    have Ac6_1 := (unhide A).cell 6 rfl
    have Ac7_1 := (unhide A).cell 7 rfl
    go_enter Tryd.func23, Tryd.ntmps23
    go_wp2
    go_ret
    exact ⟨rfl, unhide BB⟩
set_option maxHeartbeats 4000000 in
set_option maxRecDepth 100000 in
theorem uses8 (box dst text : ByteArray) (n : Nat) (how bits since : Int) (a : Option Addr) (c : Nat) (w : World) (hs : n ≤ 1048576) :
    Calls Tryd.prog 23 #[.agg #[.int .i64 8, .string box, .string dst, .slice a n c, .int .i64 how, .int .i64 bits, .int .i64 since, .string text]] w fun x w' => x = .returned (.bool (((((([] == dst.toList) && decide (n = 0)) && decide ((0 : Int) = how)) && decide ((0 : Int) = bits)) && ([] == text.toList)))) ∧ Below w.heap.size w w' := by
  obtain ⟨R, hR⟩ : ∃ R, R = (((((([] == dst.toList) && decide (n = 0)) && decide ((0 : Int) = how)) && decide ((0 : Int) = bits)) && ([] == text.toList))) := ⟨_, rfl⟩
  rw [← hR]
  cases h_dst : ([] == dst.toList) with
  | false =>
    have g_dst := nil_beq h_dst
    have BB := hide (Below.refl w.heap.size w)
    have hA : R = false := by rw [hR]; simp [h_dst]
    clear hR
    subst hA
    obtain ⟨ws1, hA⟩ : ∃ X, X = w.alloc (.cells ([.int .i64 8, .string box, .string dst, .slice a n c, .int .i64 how, .int .i64 bits, .int .i64 since, .string text] : List Value).toArray 30) := ⟨_, rfl⟩
    have Ax : HasObj ws1 w.heap.size 30 [.int .i64 8, .string box, .string dst, .slice a n c, .int .i64 how, .int .i64 bits, .int .i64 since, .string text] := by rw [hA]; exact HasObj.new _ _ _
    have hbn : Below w.heap.size w ws1 := by rw [hA]; exact (Below.refl _ _).alloc (Nat.le_refl _) _
    have loA : w.heap.size ≤ w.heap.size := (unhide BB).size
    have EA := hA.symm
    clear hA
    have sz1 := hide (hbn.size)
    have BB_ := hide (below_y (unhide BB) hbn)
    clear BB
    have BB := BB_
    clear BB_
    clear hbn
    have A := hide Ax
    clear Ax
    have Ac0_1 := (unhide A).cell 0 rfl
    have Ac1_1 := (unhide A).cell 1 rfl
    have Ac2_1 := (unhide A).cell 2 rfl
    have Ac3_1 := (unhide A).cell 3 rfl
    have Ac4_1 := (unhide A).cell 4 rfl
    have Ac5_1 := (unhide A).cell 5 rfl
    have Ac6_1 := (unhide A).cell 6 rfl
    have Ac7_1 := (unhide A).cell 7 rfl
    go_enter Tryd.func23, Tryd.ntmps23
    go_wp2
    go_ret
    exact ⟨rfl, unhide BB⟩
  | true =>
    have g_dst := nil_beq h_dst
    by_cases h_set : n = 0
    · subst h_set
      by_cases h_how : (0 : Int) = how
      · subst h_how
        by_cases h_bits : (0 : Int) = bits
        · subst h_bits
          cases h_text : ([] == text.toList) with
          | false =>
            have g_text := nil_beq h_text
            have BB := hide (Below.refl w.heap.size w)
            have hA : R = false := by rw [hR]; simp [h_dst, h_text]
            clear hR
            subst hA
            obtain ⟨ws1, hA⟩ : ∃ X, X = w.alloc (.cells ([.int .i64 8, .string box, .string dst, .slice a 0 c, .int .i64 0, .int .i64 0, .int .i64 since, .string text] : List Value).toArray 30) := ⟨_, rfl⟩
            have Ax : HasObj ws1 w.heap.size 30 [.int .i64 8, .string box, .string dst, .slice a 0 c, .int .i64 0, .int .i64 0, .int .i64 since, .string text] := by rw [hA]; exact HasObj.new _ _ _
            have hbn : Below w.heap.size w ws1 := by rw [hA]; exact (Below.refl _ _).alloc (Nat.le_refl _) _
            have loA : w.heap.size ≤ w.heap.size := (unhide BB).size
            have EA := hA.symm
            clear hA
            have sz1 := hide (hbn.size)
            have BB_ := hide (below_y (unhide BB) hbn)
            clear BB
            have BB := BB_
            clear BB_
            clear hbn
            have A := hide Ax
            clear Ax
            have Ac0_1 := (unhide A).cell 0 rfl
            have Ac1_1 := (unhide A).cell 1 rfl
            have Ac2_1 := (unhide A).cell 2 rfl
            have Ac3_1 := (unhide A).cell 3 rfl
            have Ac4_1 := (unhide A).cell 4 rfl
            have Ac5_1 := (unhide A).cell 5 rfl
            have Ac6_1 := (unhide A).cell 6 rfl
            have Ac7_1 := (unhide A).cell 7 rfl
            go_enter Tryd.func23, Tryd.ntmps23
            go_wp2
            go_ret
            exact ⟨rfl, unhide BB⟩
          | true =>
            have g_text := nil_beq h_text
            have BB := hide (Below.refl w.heap.size w)
            have hA : R = true := by rw [hR]; simp [h_dst, h_text]
            clear hR
            subst hA
            obtain ⟨ws1, hA⟩ : ∃ X, X = w.alloc (.cells ([.int .i64 8, .string box, .string dst, .slice a 0 c, .int .i64 0, .int .i64 0, .int .i64 since, .string text] : List Value).toArray 30) := ⟨_, rfl⟩
            have Ax : HasObj ws1 w.heap.size 30 [.int .i64 8, .string box, .string dst, .slice a 0 c, .int .i64 0, .int .i64 0, .int .i64 since, .string text] := by rw [hA]; exact HasObj.new _ _ _
            have hbn : Below w.heap.size w ws1 := by rw [hA]; exact (Below.refl _ _).alloc (Nat.le_refl _) _
            have loA : w.heap.size ≤ w.heap.size := (unhide BB).size
            have EA := hA.symm
            clear hA
            have sz1 := hide (hbn.size)
            have BB_ := hide (below_y (unhide BB) hbn)
            clear BB
            have BB := BB_
            clear BB_
            clear hbn
            have A := hide Ax
            clear Ax
            have Ac0_1 := (unhide A).cell 0 rfl
            have Ac1_1 := (unhide A).cell 1 rfl
            have Ac2_1 := (unhide A).cell 2 rfl
            have Ac3_1 := (unhide A).cell 3 rfl
            have Ac4_1 := (unhide A).cell 4 rfl
            have Ac5_1 := (unhide A).cell 5 rfl
            have Ac6_1 := (unhide A).cell 6 rfl
            have Ac7_1 := (unhide A).cell 7 rfl
            go_enter Tryd.func23, Tryd.ntmps23
            go_wp2
            go_ret
            exact ⟨rfl, unhide BB⟩
        · have g_bits : ¬ (bits = 0) := fun h => h_bits h.symm
          have BB := hide (Below.refl w.heap.size w)
          have hA : R = false := by rw [hR]; simp [h_dst, h_bits]
          clear hR
          subst hA
          obtain ⟨ws1, hA⟩ : ∃ X, X = w.alloc (.cells ([.int .i64 8, .string box, .string dst, .slice a 0 c, .int .i64 0, .int .i64 bits, .int .i64 since, .string text] : List Value).toArray 30) := ⟨_, rfl⟩
          have Ax : HasObj ws1 w.heap.size 30 [.int .i64 8, .string box, .string dst, .slice a 0 c, .int .i64 0, .int .i64 bits, .int .i64 since, .string text] := by rw [hA]; exact HasObj.new _ _ _
          have hbn : Below w.heap.size w ws1 := by rw [hA]; exact (Below.refl _ _).alloc (Nat.le_refl _) _
          have loA : w.heap.size ≤ w.heap.size := (unhide BB).size
          have EA := hA.symm
          clear hA
          have sz1 := hide (hbn.size)
          have BB_ := hide (below_y (unhide BB) hbn)
          clear BB
          have BB := BB_
          clear BB_
          clear hbn
          have A := hide Ax
          clear Ax
          have Ac0_1 := (unhide A).cell 0 rfl
          have Ac1_1 := (unhide A).cell 1 rfl
          have Ac2_1 := (unhide A).cell 2 rfl
          have Ac3_1 := (unhide A).cell 3 rfl
          have Ac4_1 := (unhide A).cell 4 rfl
          have Ac5_1 := (unhide A).cell 5 rfl
          have Ac6_1 := (unhide A).cell 6 rfl
          have Ac7_1 := (unhide A).cell 7 rfl
          go_enter Tryd.func23, Tryd.ntmps23
          go_wp2
          go_ret
          exact ⟨rfl, unhide BB⟩
      · have g_how : ¬ (how = 0) := fun h => h_how h.symm
        have BB := hide (Below.refl w.heap.size w)
        have hA : R = false := by rw [hR]; simp [h_dst, h_how]
        clear hR
        subst hA
        obtain ⟨ws1, hA⟩ : ∃ X, X = w.alloc (.cells ([.int .i64 8, .string box, .string dst, .slice a 0 c, .int .i64 how, .int .i64 bits, .int .i64 since, .string text] : List Value).toArray 30) := ⟨_, rfl⟩
        have Ax : HasObj ws1 w.heap.size 30 [.int .i64 8, .string box, .string dst, .slice a 0 c, .int .i64 how, .int .i64 bits, .int .i64 since, .string text] := by rw [hA]; exact HasObj.new _ _ _
        have hbn : Below w.heap.size w ws1 := by rw [hA]; exact (Below.refl _ _).alloc (Nat.le_refl _) _
        have loA : w.heap.size ≤ w.heap.size := (unhide BB).size
        have EA := hA.symm
        clear hA
        have sz1 := hide (hbn.size)
        have BB_ := hide (below_y (unhide BB) hbn)
        clear BB
        have BB := BB_
        clear BB_
        clear hbn
        have A := hide Ax
        clear Ax
        have Ac0_1 := (unhide A).cell 0 rfl
        have Ac1_1 := (unhide A).cell 1 rfl
        have Ac2_1 := (unhide A).cell 2 rfl
        have Ac3_1 := (unhide A).cell 3 rfl
        have Ac4_1 := (unhide A).cell 4 rfl
        have Ac5_1 := (unhide A).cell 5 rfl
        have Ac6_1 := (unhide A).cell 6 rfl
        have Ac7_1 := (unhide A).cell 7 rfl
        go_enter Tryd.func23, Tryd.ntmps23
        go_wp2
        go_ret
        exact ⟨rfl, unhide BB⟩
    · have g_set : ¬ ((n : Int) = 0) := by omega
      have BB := hide (Below.refl w.heap.size w)
      have hA : R = false := by rw [hR]; simp [h_dst, h_set]
      clear hR
      subst hA
      obtain ⟨ws1, hA⟩ : ∃ X, X = w.alloc (.cells ([.int .i64 8, .string box, .string dst, .slice a n c, .int .i64 how, .int .i64 bits, .int .i64 since, .string text] : List Value).toArray 30) := ⟨_, rfl⟩
      have Ax : HasObj ws1 w.heap.size 30 [.int .i64 8, .string box, .string dst, .slice a n c, .int .i64 how, .int .i64 bits, .int .i64 since, .string text] := by rw [hA]; exact HasObj.new _ _ _
      have hbn : Below w.heap.size w ws1 := by rw [hA]; exact (Below.refl _ _).alloc (Nat.le_refl _) _
      have loA : w.heap.size ≤ w.heap.size := (unhide BB).size
      have EA := hA.symm
      clear hA
      have sz1 := hide (hbn.size)
      have BB_ := hide (below_y (unhide BB) hbn)
      clear BB
      have BB := BB_
      clear BB_
      clear hbn
      have A := hide Ax
      clear Ax
      have Ac0_1 := (unhide A).cell 0 rfl
      have Ac1_1 := (unhide A).cell 1 rfl
      have Ac2_1 := (unhide A).cell 2 rfl
      have Ac3_1 := (unhide A).cell 3 rfl
      have Ac4_1 := (unhide A).cell 4 rfl
      have Ac5_1 := (unhide A).cell 5 rfl
      have Ac6_1 := (unhide A).cell 6 rfl
      have Ac7_1 := (unhide A).cell 7 rfl
      go_enter Tryd.func23, Tryd.ntmps23
      go_wp2
      go_ret
      exact ⟨rfl, unhide BB⟩
end Go.Proofs.YtecognggnbopaacDoor
