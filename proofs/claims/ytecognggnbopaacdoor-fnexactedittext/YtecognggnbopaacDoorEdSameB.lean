/- The program's sameEdit. Made by gen_edit.py. -/
import Derived.Test.YtecognggnbopaacDoorEdSame
namespace Go.Proofs.YtecognggnbopaacDoor
open Go.RowKit Go.ChangeShapes Go.WideShapes Go.ChangeAt Go.Deep
open Plain
set_option linter.unusedVariables false
set_option linter.unusedSimpArgs false

set_option maxHeartbeats 4000000 in
set_option maxRecDepth 100000 in
theorem same5 (box dst text : ByteArray) (set : List Rg) (how bits since : Int) (a : Option Addr) (c : Nat) (w : World) (hs : set.length ≤ 1048576) (hr : ReadO w (.slice a set.length c) set) :
    Calls Tryd.prog 31 #[.agg #[.int .i64 5, .string box, .string ⟨#[]⟩, .slice a set.length c, .int .i64 0, .int .i64 0, .int .i64 0, .string ⟨#[]⟩], .agg #[.int .i64 5, .string box, .string dst, .slice a set.length c, .int .i64 how, .int .i64 bits, .int .i64 since, .string text]] w fun x w' => x = .returned (.bool (((((([] == dst.toList) && decide ((0 : Int) = how)) && decide ((0 : Int) = bits)) && decide ((0 : Int) = since)) && ([] == text.toList)))) ∧ Below w.heap.size w w' := by
  obtain ⟨R, hR⟩ : ∃ R, R = (((((([] == dst.toList) && decide ((0 : Int) = how)) && decide ((0 : Int) = bits)) && decide ((0 : Int) = since)) && ([] == text.toList))) := ⟨_, rfl⟩
  rw [← hR]
  have RS := hide hr
  clear hr
  cases h_dst : ([] == dst.toList) with
  | false =>
    have g_dst := nil_beq h_dst
    have BB := hide (Below.refl w.heap.size w)
    have hA : R = false := by rw [hR]; simp [h_dst]
    clear hR
    subst hA
    obtain ⟨ws1, hA⟩ : ∃ X, X = w.alloc (.cells ([.int .i64 5, .string box, .string ⟨#[]⟩, .slice a set.length c, .int .i64 0, .int .i64 0, .int .i64 0, .string ⟨#[]⟩] : List Value).toArray 30) := ⟨_, rfl⟩
    have Ax : HasObj ws1 w.heap.size 30 [.int .i64 5, .string box, .string ⟨#[]⟩, .slice a set.length c, .int .i64 0, .int .i64 0, .int .i64 0, .string ⟨#[]⟩] := by rw [hA]; exact HasObj.new _ _ _
    have hbn : Below w.heap.size w ws1 := by rw [hA]; exact (Below.refl _ _).alloc (Nat.le_refl _) _
    have loA : w.heap.size ≤ w.heap.size := (unhide BB).size
    have EA := hA.symm
    clear hA
    have RS_ := hide ((unhide RS).up hbn)
    clear RS
    have RS := RS_
    clear RS_
    have sz1 := hide (hbn.size)
    have BB_ := hide (below_y (unhide BB) hbn)
    clear BB
    have BB := BB_
    clear BB_
    clear hbn
    have A := hide Ax
    clear Ax
    obtain ⟨ws2, hD⟩ : ∃ X, X = ws1.alloc (.cells ([.int .i64 5, .string box, .string dst, .slice a set.length c, .int .i64 how, .int .i64 bits, .int .i64 since, .string text] : List Value).toArray 30) := ⟨_, rfl⟩
    have Dx : HasObj ws2 ws1.heap.size 30 [.int .i64 5, .string box, .string dst, .slice a set.length c, .int .i64 how, .int .i64 bits, .int .i64 since, .string text] := by rw [hD]; exact HasObj.new _ _ _
    have hbn : Below ws1.heap.size ws1 ws2 := by rw [hD]; exact (Below.refl _ _).alloc (Nat.le_refl _) _
    have neAD : w.heap.size ≠ ws1.heap.size := Nat.ne_of_lt (unhide A).lt
    have loD : w.heap.size ≤ ws1.heap.size := (unhide BB).size
    have ED := hD.symm
    clear hD
    have A_ := hide ((unhide A).ups hbn)
    clear A
    have A := A_
    clear A_
    have RS_ := hide ((unhide RS).up hbn)
    clear RS
    have RS := RS_
    clear RS_
    have sz2 := hide (hbn.size)
    have BB_ := hide (below_y (unhide BB) hbn)
    clear BB
    have BB := BB_
    clear BB_
    clear hbn
    have D := hide Dx
    clear Dx
    have Ac0_1 := (unhide A).cell 0 rfl
    have Ac1_1 := (unhide A).cell 1 rfl
    have Ac2_1 := (unhide A).cell 2 rfl
    have Ac3_1 := (unhide A).cell 3 rfl
    have Ac4_1 := (unhide A).cell 4 rfl
    have Ac5_1 := (unhide A).cell 5 rfl
    have Ac6_1 := (unhide A).cell 6 rfl
    have Ac7_1 := (unhide A).cell 7 rfl
    have Dc0_2 := (unhide D).cell 0 rfl
    have Dc1_2 := (unhide D).cell 1 rfl
    have Dc2_2 := (unhide D).cell 2 rfl
    have Dc3_2 := (unhide D).cell 3 rfl
    have Dc4_2 := (unhide D).cell 4 rfl
    have Dc5_2 := (unhide D).cell 5 rfl
    have Dc6_2 := (unhide D).cell 6 rfl
    have Dc7_2 := (unhide D).cell 7 rfl
    go_enter Tryd.func31, Tryd.ntmps31
    go_wp2
    go_ret
    exact ⟨rfl, unhide BB⟩
  | true =>
    have g_dst := nil_beq h_dst
    by_cases h_how : (0 : Int) = how
    · subst h_how
      by_cases h_bits : (0 : Int) = bits
      · subst h_bits
        by_cases h_since : (0 : Int) = since
        · subst h_since
          cases h_text : ([] == text.toList) with
          | false =>
            have g_text := nil_beq h_text
            have BB := hide (Below.refl w.heap.size w)
            have hA : R = false := by rw [hR]; simp [h_dst, h_text]
            clear hR
            subst hA
            obtain ⟨ws1, hA⟩ : ∃ X, X = w.alloc (.cells ([.int .i64 5, .string box, .string ⟨#[]⟩, .slice a set.length c, .int .i64 0, .int .i64 0, .int .i64 0, .string ⟨#[]⟩] : List Value).toArray 30) := ⟨_, rfl⟩
            have Ax : HasObj ws1 w.heap.size 30 [.int .i64 5, .string box, .string ⟨#[]⟩, .slice a set.length c, .int .i64 0, .int .i64 0, .int .i64 0, .string ⟨#[]⟩] := by rw [hA]; exact HasObj.new _ _ _
            have hbn : Below w.heap.size w ws1 := by rw [hA]; exact (Below.refl _ _).alloc (Nat.le_refl _) _
            have loA : w.heap.size ≤ w.heap.size := (unhide BB).size
            have EA := hA.symm
            clear hA
            have RS_ := hide ((unhide RS).up hbn)
            clear RS
            have RS := RS_
            clear RS_
            have sz1 := hide (hbn.size)
            have BB_ := hide (below_y (unhide BB) hbn)
            clear BB
            have BB := BB_
            clear BB_
            clear hbn
            have A := hide Ax
            clear Ax
            obtain ⟨ws2, hD⟩ : ∃ X, X = ws1.alloc (.cells ([.int .i64 5, .string box, .string dst, .slice a set.length c, .int .i64 0, .int .i64 0, .int .i64 0, .string text] : List Value).toArray 30) := ⟨_, rfl⟩
            have Dx : HasObj ws2 ws1.heap.size 30 [.int .i64 5, .string box, .string dst, .slice a set.length c, .int .i64 0, .int .i64 0, .int .i64 0, .string text] := by rw [hD]; exact HasObj.new _ _ _
            have hbn : Below ws1.heap.size ws1 ws2 := by rw [hD]; exact (Below.refl _ _).alloc (Nat.le_refl _) _
            have neAD : w.heap.size ≠ ws1.heap.size := Nat.ne_of_lt (unhide A).lt
            have loD : w.heap.size ≤ ws1.heap.size := (unhide BB).size
            have ED := hD.symm
            clear hD
            have A_ := hide ((unhide A).ups hbn)
            clear A
            have A := A_
            clear A_
            have RS_ := hide ((unhide RS).up hbn)
            clear RS
            have RS := RS_
            clear RS_
            have sz2 := hide (hbn.size)
            have BB_ := hide (below_y (unhide BB) hbn)
            clear BB
            have BB := BB_
            clear BB_
            clear hbn
            have D := hide Dx
            clear Dx
            have Ac0_1 := (unhide A).cell 0 rfl
            have Ac1_1 := (unhide A).cell 1 rfl
            have Ac2_1 := (unhide A).cell 2 rfl
            have Ac3_1 := (unhide A).cell 3 rfl
            have Ac4_1 := (unhide A).cell 4 rfl
            have Ac5_1 := (unhide A).cell 5 rfl
            have Ac6_1 := (unhide A).cell 6 rfl
            have Ac7_1 := (unhide A).cell 7 rfl
            have Dc0_2 := (unhide D).cell 0 rfl
            have Dc1_2 := (unhide D).cell 1 rfl
            have Dc2_2 := (unhide D).cell 2 rfl
            have Dc3_2 := (unhide D).cell 3 rfl
            have Dc4_2 := (unhide D).cell 4 rfl
            have Dc5_2 := (unhide D).cell 5 rfl
            have Dc6_2 := (unhide D).cell 6 rfl
            have Dc7_2 := (unhide D).cell 7 rfl
            go_enter Tryd.func31, Tryd.ntmps31
            go_wp2_with fail
            clear Ac0_1 Ac1_1 Ac2_1 Ac3_1 Ac4_1 Ac5_1 Ac6_1 Ac7_1 Dc0_2 Dc1_2 Dc2_2 Dc3_2 Dc4_2 Dc5_2 Dc6_2 Dc7_2 EA ED
            refine (equal_self a c set _ hs (unhide RS)).mono ?_
            rintro e ws3 ⟨rfl, hb⟩
            have A_ := hide ((unhide A).ups hb)
            clear A
            have A := A_
            clear A_
            have D_ := hide ((unhide D).ups hb)
            clear D
            have D := D_
            clear D_
            have RS_ := hide ((unhide RS).up hb)
            clear RS
            have RS := RS_
            clear RS_
            have sz3 := hide (hb.size)
            have BB_ := hide (below_y (unhide BB) hb)
            clear BB
            have BB := BB_
            clear BB_
            clear hb
            have Ac0_3 := (unhide A).cell 0 rfl
            have Ac1_3 := (unhide A).cell 1 rfl
            have Ac2_3 := (unhide A).cell 2 rfl
            have Ac3_3 := (unhide A).cell 3 rfl
            have Ac4_3 := (unhide A).cell 4 rfl
            have Ac5_3 := (unhide A).cell 5 rfl
            have Ac6_3 := (unhide A).cell 6 rfl
            have Ac7_3 := (unhide A).cell 7 rfl
            have Dc0_4 := (unhide D).cell 0 rfl
            have Dc1_4 := (unhide D).cell 1 rfl
            have Dc2_4 := (unhide D).cell 2 rfl
            have Dc3_4 := (unhide D).cell 3 rfl
            have Dc4_4 := (unhide D).cell 4 rfl
            have Dc5_4 := (unhide D).cell 5 rfl
            have Dc6_4 := (unhide D).cell 6 rfl
            have Dc7_4 := (unhide D).cell 7 rfl
            go_wp2
            go_ret
            exact ⟨rfl, unhide BB⟩
          | true =>
            have g_text := nil_beq h_text
            have BB := hide (Below.refl w.heap.size w)
            have hA : R = true := by rw [hR]; simp [h_dst, h_text]
            clear hR
            subst hA
            obtain ⟨ws1, hA⟩ : ∃ X, X = w.alloc (.cells ([.int .i64 5, .string box, .string ⟨#[]⟩, .slice a set.length c, .int .i64 0, .int .i64 0, .int .i64 0, .string ⟨#[]⟩] : List Value).toArray 30) := ⟨_, rfl⟩
            have Ax : HasObj ws1 w.heap.size 30 [.int .i64 5, .string box, .string ⟨#[]⟩, .slice a set.length c, .int .i64 0, .int .i64 0, .int .i64 0, .string ⟨#[]⟩] := by rw [hA]; exact HasObj.new _ _ _
            have hbn : Below w.heap.size w ws1 := by rw [hA]; exact (Below.refl _ _).alloc (Nat.le_refl _) _
            have loA : w.heap.size ≤ w.heap.size := (unhide BB).size
            have EA := hA.symm
            clear hA
            have RS_ := hide ((unhide RS).up hbn)
            clear RS
            have RS := RS_
            clear RS_
            have sz1 := hide (hbn.size)
            have BB_ := hide (below_y (unhide BB) hbn)
            clear BB
            have BB := BB_
            clear BB_
            clear hbn
            have A := hide Ax
            clear Ax
            obtain ⟨ws2, hD⟩ : ∃ X, X = ws1.alloc (.cells ([.int .i64 5, .string box, .string dst, .slice a set.length c, .int .i64 0, .int .i64 0, .int .i64 0, .string text] : List Value).toArray 30) := ⟨_, rfl⟩
            have Dx : HasObj ws2 ws1.heap.size 30 [.int .i64 5, .string box, .string dst, .slice a set.length c, .int .i64 0, .int .i64 0, .int .i64 0, .string text] := by rw [hD]; exact HasObj.new _ _ _
            have hbn : Below ws1.heap.size ws1 ws2 := by rw [hD]; exact (Below.refl _ _).alloc (Nat.le_refl _) _
            have neAD : w.heap.size ≠ ws1.heap.size := Nat.ne_of_lt (unhide A).lt
            have loD : w.heap.size ≤ ws1.heap.size := (unhide BB).size
            have ED := hD.symm
            clear hD
            have A_ := hide ((unhide A).ups hbn)
            clear A
            have A := A_
            clear A_
            have RS_ := hide ((unhide RS).up hbn)
            clear RS
            have RS := RS_
            clear RS_
            have sz2 := hide (hbn.size)
            have BB_ := hide (below_y (unhide BB) hbn)
            clear BB
            have BB := BB_
            clear BB_
            clear hbn
            have D := hide Dx
            clear Dx
            have Ac0_1 := (unhide A).cell 0 rfl
            have Ac1_1 := (unhide A).cell 1 rfl
            have Ac2_1 := (unhide A).cell 2 rfl
            have Ac3_1 := (unhide A).cell 3 rfl
            have Ac4_1 := (unhide A).cell 4 rfl
            have Ac5_1 := (unhide A).cell 5 rfl
            have Ac6_1 := (unhide A).cell 6 rfl
            have Ac7_1 := (unhide A).cell 7 rfl
            have Dc0_2 := (unhide D).cell 0 rfl
            have Dc1_2 := (unhide D).cell 1 rfl
            have Dc2_2 := (unhide D).cell 2 rfl
            have Dc3_2 := (unhide D).cell 3 rfl
            have Dc4_2 := (unhide D).cell 4 rfl
            have Dc5_2 := (unhide D).cell 5 rfl
            have Dc6_2 := (unhide D).cell 6 rfl
            have Dc7_2 := (unhide D).cell 7 rfl
            go_enter Tryd.func31, Tryd.ntmps31
            go_wp2_with fail
            clear Ac0_1 Ac1_1 Ac2_1 Ac3_1 Ac4_1 Ac5_1 Ac6_1 Ac7_1 Dc0_2 Dc1_2 Dc2_2 Dc3_2 Dc4_2 Dc5_2 Dc6_2 Dc7_2 EA ED
            refine (equal_self a c set _ hs (unhide RS)).mono ?_
            rintro e ws3 ⟨rfl, hb⟩
            have A_ := hide ((unhide A).ups hb)
            clear A
            have A := A_
            clear A_
            have D_ := hide ((unhide D).ups hb)
            clear D
            have D := D_
            clear D_
            have RS_ := hide ((unhide RS).up hb)
            clear RS
            have RS := RS_
            clear RS_
            have sz3 := hide (hb.size)
            have BB_ := hide (below_y (unhide BB) hb)
            clear BB
            have BB := BB_
            clear BB_
            clear hb
            have Ac0_3 := (unhide A).cell 0 rfl
            have Ac1_3 := (unhide A).cell 1 rfl
            have Ac2_3 := (unhide A).cell 2 rfl
            have Ac3_3 := (unhide A).cell 3 rfl
            have Ac4_3 := (unhide A).cell 4 rfl
            have Ac5_3 := (unhide A).cell 5 rfl
            have Ac6_3 := (unhide A).cell 6 rfl
            have Ac7_3 := (unhide A).cell 7 rfl
            have Dc0_4 := (unhide D).cell 0 rfl
            have Dc1_4 := (unhide D).cell 1 rfl
            have Dc2_4 := (unhide D).cell 2 rfl
            have Dc3_4 := (unhide D).cell 3 rfl
            have Dc4_4 := (unhide D).cell 4 rfl
            have Dc5_4 := (unhide D).cell 5 rfl
            have Dc6_4 := (unhide D).cell 6 rfl
            have Dc7_4 := (unhide D).cell 7 rfl
            go_wp2
            go_ret
            exact ⟨rfl, unhide BB⟩
        · have g_since : ¬ (since = 0) := fun h => h_since h.symm
          have BB := hide (Below.refl w.heap.size w)
          have hA : R = false := by rw [hR]; simp [h_dst, h_since]
          clear hR
          subst hA
          obtain ⟨ws1, hA⟩ : ∃ X, X = w.alloc (.cells ([.int .i64 5, .string box, .string ⟨#[]⟩, .slice a set.length c, .int .i64 0, .int .i64 0, .int .i64 0, .string ⟨#[]⟩] : List Value).toArray 30) := ⟨_, rfl⟩
          have Ax : HasObj ws1 w.heap.size 30 [.int .i64 5, .string box, .string ⟨#[]⟩, .slice a set.length c, .int .i64 0, .int .i64 0, .int .i64 0, .string ⟨#[]⟩] := by rw [hA]; exact HasObj.new _ _ _
          have hbn : Below w.heap.size w ws1 := by rw [hA]; exact (Below.refl _ _).alloc (Nat.le_refl _) _
          have loA : w.heap.size ≤ w.heap.size := (unhide BB).size
          have EA := hA.symm
          clear hA
          have RS_ := hide ((unhide RS).up hbn)
          clear RS
          have RS := RS_
          clear RS_
          have sz1 := hide (hbn.size)
          have BB_ := hide (below_y (unhide BB) hbn)
          clear BB
          have BB := BB_
          clear BB_
          clear hbn
          have A := hide Ax
          clear Ax
          obtain ⟨ws2, hD⟩ : ∃ X, X = ws1.alloc (.cells ([.int .i64 5, .string box, .string dst, .slice a set.length c, .int .i64 0, .int .i64 0, .int .i64 since, .string text] : List Value).toArray 30) := ⟨_, rfl⟩
          have Dx : HasObj ws2 ws1.heap.size 30 [.int .i64 5, .string box, .string dst, .slice a set.length c, .int .i64 0, .int .i64 0, .int .i64 since, .string text] := by rw [hD]; exact HasObj.new _ _ _
          have hbn : Below ws1.heap.size ws1 ws2 := by rw [hD]; exact (Below.refl _ _).alloc (Nat.le_refl _) _
          have neAD : w.heap.size ≠ ws1.heap.size := Nat.ne_of_lt (unhide A).lt
          have loD : w.heap.size ≤ ws1.heap.size := (unhide BB).size
          have ED := hD.symm
          clear hD
          have A_ := hide ((unhide A).ups hbn)
          clear A
          have A := A_
          clear A_
          have RS_ := hide ((unhide RS).up hbn)
          clear RS
          have RS := RS_
          clear RS_
          have sz2 := hide (hbn.size)
          have BB_ := hide (below_y (unhide BB) hbn)
          clear BB
          have BB := BB_
          clear BB_
          clear hbn
          have D := hide Dx
          clear Dx
          have Ac0_1 := (unhide A).cell 0 rfl
          have Ac1_1 := (unhide A).cell 1 rfl
          have Ac2_1 := (unhide A).cell 2 rfl
          have Ac3_1 := (unhide A).cell 3 rfl
          have Ac4_1 := (unhide A).cell 4 rfl
          have Ac5_1 := (unhide A).cell 5 rfl
          have Ac6_1 := (unhide A).cell 6 rfl
          have Ac7_1 := (unhide A).cell 7 rfl
          have Dc0_2 := (unhide D).cell 0 rfl
          have Dc1_2 := (unhide D).cell 1 rfl
          have Dc2_2 := (unhide D).cell 2 rfl
          have Dc3_2 := (unhide D).cell 3 rfl
          have Dc4_2 := (unhide D).cell 4 rfl
          have Dc5_2 := (unhide D).cell 5 rfl
          have Dc6_2 := (unhide D).cell 6 rfl
          have Dc7_2 := (unhide D).cell 7 rfl
          go_enter Tryd.func31, Tryd.ntmps31
          go_wp2_with fail
          clear Ac0_1 Ac1_1 Ac2_1 Ac3_1 Ac4_1 Ac5_1 Ac6_1 Ac7_1 Dc0_2 Dc1_2 Dc2_2 Dc3_2 Dc4_2 Dc5_2 Dc6_2 Dc7_2 EA ED
          refine (equal_self a c set _ hs (unhide RS)).mono ?_
          rintro e ws3 ⟨rfl, hb⟩
          have A_ := hide ((unhide A).ups hb)
          clear A
          have A := A_
          clear A_
          have D_ := hide ((unhide D).ups hb)
          clear D
          have D := D_
          clear D_
          have RS_ := hide ((unhide RS).up hb)
          clear RS
          have RS := RS_
          clear RS_
          have sz3 := hide (hb.size)
          have BB_ := hide (below_y (unhide BB) hb)
          clear BB
          have BB := BB_
          clear BB_
          clear hb
          have Ac0_3 := (unhide A).cell 0 rfl
          have Ac1_3 := (unhide A).cell 1 rfl
          have Ac2_3 := (unhide A).cell 2 rfl
          have Ac3_3 := (unhide A).cell 3 rfl
          have Ac4_3 := (unhide A).cell 4 rfl
          have Ac5_3 := (unhide A).cell 5 rfl
          have Ac6_3 := (unhide A).cell 6 rfl
          have Ac7_3 := (unhide A).cell 7 rfl
          have Dc0_4 := (unhide D).cell 0 rfl
          have Dc1_4 := (unhide D).cell 1 rfl
          have Dc2_4 := (unhide D).cell 2 rfl
          have Dc3_4 := (unhide D).cell 3 rfl
          have Dc4_4 := (unhide D).cell 4 rfl
          have Dc5_4 := (unhide D).cell 5 rfl
          have Dc6_4 := (unhide D).cell 6 rfl
          have Dc7_4 := (unhide D).cell 7 rfl
          go_wp2
          go_ret
          exact ⟨rfl, unhide BB⟩
      · have g_bits : ¬ (bits = 0) := fun h => h_bits h.symm
        have BB := hide (Below.refl w.heap.size w)
        have hA : R = false := by rw [hR]; simp [h_dst, h_bits]
        clear hR
        subst hA
        obtain ⟨ws1, hA⟩ : ∃ X, X = w.alloc (.cells ([.int .i64 5, .string box, .string ⟨#[]⟩, .slice a set.length c, .int .i64 0, .int .i64 0, .int .i64 0, .string ⟨#[]⟩] : List Value).toArray 30) := ⟨_, rfl⟩
        have Ax : HasObj ws1 w.heap.size 30 [.int .i64 5, .string box, .string ⟨#[]⟩, .slice a set.length c, .int .i64 0, .int .i64 0, .int .i64 0, .string ⟨#[]⟩] := by rw [hA]; exact HasObj.new _ _ _
        have hbn : Below w.heap.size w ws1 := by rw [hA]; exact (Below.refl _ _).alloc (Nat.le_refl _) _
        have loA : w.heap.size ≤ w.heap.size := (unhide BB).size
        have EA := hA.symm
        clear hA
        have RS_ := hide ((unhide RS).up hbn)
        clear RS
        have RS := RS_
        clear RS_
        have sz1 := hide (hbn.size)
        have BB_ := hide (below_y (unhide BB) hbn)
        clear BB
        have BB := BB_
        clear BB_
        clear hbn
        have A := hide Ax
        clear Ax
        obtain ⟨ws2, hD⟩ : ∃ X, X = ws1.alloc (.cells ([.int .i64 5, .string box, .string dst, .slice a set.length c, .int .i64 0, .int .i64 bits, .int .i64 since, .string text] : List Value).toArray 30) := ⟨_, rfl⟩
        have Dx : HasObj ws2 ws1.heap.size 30 [.int .i64 5, .string box, .string dst, .slice a set.length c, .int .i64 0, .int .i64 bits, .int .i64 since, .string text] := by rw [hD]; exact HasObj.new _ _ _
        have hbn : Below ws1.heap.size ws1 ws2 := by rw [hD]; exact (Below.refl _ _).alloc (Nat.le_refl _) _
        have neAD : w.heap.size ≠ ws1.heap.size := Nat.ne_of_lt (unhide A).lt
        have loD : w.heap.size ≤ ws1.heap.size := (unhide BB).size
        have ED := hD.symm
        clear hD
        have A_ := hide ((unhide A).ups hbn)
        clear A
        have A := A_
        clear A_
        have RS_ := hide ((unhide RS).up hbn)
        clear RS
        have RS := RS_
        clear RS_
        have sz2 := hide (hbn.size)
        have BB_ := hide (below_y (unhide BB) hbn)
        clear BB
        have BB := BB_
        clear BB_
        clear hbn
        have D := hide Dx
        clear Dx
        have Ac0_1 := (unhide A).cell 0 rfl
        have Ac1_1 := (unhide A).cell 1 rfl
        have Ac2_1 := (unhide A).cell 2 rfl
        have Ac3_1 := (unhide A).cell 3 rfl
        have Ac4_1 := (unhide A).cell 4 rfl
        have Ac5_1 := (unhide A).cell 5 rfl
        have Ac6_1 := (unhide A).cell 6 rfl
        have Ac7_1 := (unhide A).cell 7 rfl
        have Dc0_2 := (unhide D).cell 0 rfl
        have Dc1_2 := (unhide D).cell 1 rfl
        have Dc2_2 := (unhide D).cell 2 rfl
        have Dc3_2 := (unhide D).cell 3 rfl
        have Dc4_2 := (unhide D).cell 4 rfl
        have Dc5_2 := (unhide D).cell 5 rfl
        have Dc6_2 := (unhide D).cell 6 rfl
        have Dc7_2 := (unhide D).cell 7 rfl
        go_enter Tryd.func31, Tryd.ntmps31
        go_wp2_with fail
        clear Ac0_1 Ac1_1 Ac2_1 Ac3_1 Ac4_1 Ac5_1 Ac6_1 Ac7_1 Dc0_2 Dc1_2 Dc2_2 Dc3_2 Dc4_2 Dc5_2 Dc6_2 Dc7_2 EA ED
        refine (equal_self a c set _ hs (unhide RS)).mono ?_
        rintro e ws3 ⟨rfl, hb⟩
        have A_ := hide ((unhide A).ups hb)
        clear A
        have A := A_
        clear A_
        have D_ := hide ((unhide D).ups hb)
        clear D
        have D := D_
        clear D_
        have RS_ := hide ((unhide RS).up hb)
        clear RS
        have RS := RS_
        clear RS_
        have sz3 := hide (hb.size)
        have BB_ := hide (below_y (unhide BB) hb)
        clear BB
        have BB := BB_
        clear BB_
        clear hb
        have Ac0_3 := (unhide A).cell 0 rfl
        have Ac1_3 := (unhide A).cell 1 rfl
        have Ac2_3 := (unhide A).cell 2 rfl
        have Ac3_3 := (unhide A).cell 3 rfl
        have Ac4_3 := (unhide A).cell 4 rfl
        have Ac5_3 := (unhide A).cell 5 rfl
        have Ac6_3 := (unhide A).cell 6 rfl
        have Ac7_3 := (unhide A).cell 7 rfl
        have Dc0_4 := (unhide D).cell 0 rfl
        have Dc1_4 := (unhide D).cell 1 rfl
        have Dc2_4 := (unhide D).cell 2 rfl
        have Dc3_4 := (unhide D).cell 3 rfl
        have Dc4_4 := (unhide D).cell 4 rfl
        have Dc5_4 := (unhide D).cell 5 rfl
        have Dc6_4 := (unhide D).cell 6 rfl
        have Dc7_4 := (unhide D).cell 7 rfl
        go_wp2
        go_ret
        exact ⟨rfl, unhide BB⟩
    · have g_how : ¬ (how = 0) := fun h => h_how h.symm
      have BB := hide (Below.refl w.heap.size w)
      have hA : R = false := by rw [hR]; simp [h_dst, h_how]
      clear hR
      subst hA
      obtain ⟨ws1, hA⟩ : ∃ X, X = w.alloc (.cells ([.int .i64 5, .string box, .string ⟨#[]⟩, .slice a set.length c, .int .i64 0, .int .i64 0, .int .i64 0, .string ⟨#[]⟩] : List Value).toArray 30) := ⟨_, rfl⟩
      have Ax : HasObj ws1 w.heap.size 30 [.int .i64 5, .string box, .string ⟨#[]⟩, .slice a set.length c, .int .i64 0, .int .i64 0, .int .i64 0, .string ⟨#[]⟩] := by rw [hA]; exact HasObj.new _ _ _
      have hbn : Below w.heap.size w ws1 := by rw [hA]; exact (Below.refl _ _).alloc (Nat.le_refl _) _
      have loA : w.heap.size ≤ w.heap.size := (unhide BB).size
      have EA := hA.symm
      clear hA
      have RS_ := hide ((unhide RS).up hbn)
      clear RS
      have RS := RS_
      clear RS_
      have sz1 := hide (hbn.size)
      have BB_ := hide (below_y (unhide BB) hbn)
      clear BB
      have BB := BB_
      clear BB_
      clear hbn
      have A := hide Ax
      clear Ax
      obtain ⟨ws2, hD⟩ : ∃ X, X = ws1.alloc (.cells ([.int .i64 5, .string box, .string dst, .slice a set.length c, .int .i64 how, .int .i64 bits, .int .i64 since, .string text] : List Value).toArray 30) := ⟨_, rfl⟩
      have Dx : HasObj ws2 ws1.heap.size 30 [.int .i64 5, .string box, .string dst, .slice a set.length c, .int .i64 how, .int .i64 bits, .int .i64 since, .string text] := by rw [hD]; exact HasObj.new _ _ _
      have hbn : Below ws1.heap.size ws1 ws2 := by rw [hD]; exact (Below.refl _ _).alloc (Nat.le_refl _) _
      have neAD : w.heap.size ≠ ws1.heap.size := Nat.ne_of_lt (unhide A).lt
      have loD : w.heap.size ≤ ws1.heap.size := (unhide BB).size
      have ED := hD.symm
      clear hD
      have A_ := hide ((unhide A).ups hbn)
      clear A
      have A := A_
      clear A_
      have RS_ := hide ((unhide RS).up hbn)
      clear RS
      have RS := RS_
      clear RS_
      have sz2 := hide (hbn.size)
      have BB_ := hide (below_y (unhide BB) hbn)
      clear BB
      have BB := BB_
      clear BB_
      clear hbn
      have D := hide Dx
      clear Dx
      have Ac0_1 := (unhide A).cell 0 rfl
      have Ac1_1 := (unhide A).cell 1 rfl
      have Ac2_1 := (unhide A).cell 2 rfl
      have Ac3_1 := (unhide A).cell 3 rfl
      have Ac4_1 := (unhide A).cell 4 rfl
      have Ac5_1 := (unhide A).cell 5 rfl
      have Ac6_1 := (unhide A).cell 6 rfl
      have Ac7_1 := (unhide A).cell 7 rfl
      have Dc0_2 := (unhide D).cell 0 rfl
      have Dc1_2 := (unhide D).cell 1 rfl
      have Dc2_2 := (unhide D).cell 2 rfl
      have Dc3_2 := (unhide D).cell 3 rfl
      have Dc4_2 := (unhide D).cell 4 rfl
      have Dc5_2 := (unhide D).cell 5 rfl
      have Dc6_2 := (unhide D).cell 6 rfl
      have Dc7_2 := (unhide D).cell 7 rfl
      go_enter Tryd.func31, Tryd.ntmps31
      go_wp2_with fail
      clear Ac0_1 Ac1_1 Ac2_1 Ac3_1 Ac4_1 Ac5_1 Ac6_1 Ac7_1 Dc0_2 Dc1_2 Dc2_2 Dc3_2 Dc4_2 Dc5_2 Dc6_2 Dc7_2 EA ED
      refine (equal_self a c set _ hs (unhide RS)).mono ?_
      rintro e ws3 ⟨rfl, hb⟩
      have A_ := hide ((unhide A).ups hb)
      clear A
      have A := A_
      clear A_
      have D_ := hide ((unhide D).ups hb)
      clear D
      have D := D_
      clear D_
      have RS_ := hide ((unhide RS).up hb)
      clear RS
      have RS := RS_
      clear RS_
      have sz3 := hide (hb.size)
      have BB_ := hide (below_y (unhide BB) hb)
      clear BB
      have BB := BB_
      clear BB_
      clear hb
      have Ac0_3 := (unhide A).cell 0 rfl
      have Ac1_3 := (unhide A).cell 1 rfl
      have Ac2_3 := (unhide A).cell 2 rfl
      have Ac3_3 := (unhide A).cell 3 rfl
      have Ac4_3 := (unhide A).cell 4 rfl
      have Ac5_3 := (unhide A).cell 5 rfl
      have Ac6_3 := (unhide A).cell 6 rfl
      have Ac7_3 := (unhide A).cell 7 rfl
      have Dc0_4 := (unhide D).cell 0 rfl
      have Dc1_4 := (unhide D).cell 1 rfl
      have Dc2_4 := (unhide D).cell 2 rfl
      have Dc3_4 := (unhide D).cell 3 rfl
      have Dc4_4 := (unhide D).cell 4 rfl
      have Dc5_4 := (unhide D).cell 5 rfl
      have Dc6_4 := (unhide D).cell 6 rfl
      have Dc7_4 := (unhide D).cell 7 rfl
      go_wp2
      go_ret
      exact ⟨rfl, unhide BB⟩
set_option maxHeartbeats 4000000 in
set_option maxRecDepth 100000 in
theorem same6 (box dst text : ByteArray) (set : List Rg) (how bits since : Int) (a : Option Addr) (c : Nat) (w : World) (hs : set.length ≤ 1048576) (hr : ReadO w (.slice a set.length c) set) :
    Calls Tryd.prog 31 #[.agg #[.int .i64 6, .string box, .string dst, .slice a set.length c, .int .i64 0, .int .i64 0, .int .i64 0, .string ⟨#[]⟩], .agg #[.int .i64 6, .string box, .string dst, .slice a set.length c, .int .i64 how, .int .i64 bits, .int .i64 since, .string text]] w fun x w' => x = .returned (.bool ((((decide ((0 : Int) = how) && decide ((0 : Int) = bits)) && decide ((0 : Int) = since)) && ([] == text.toList)))) ∧ Below w.heap.size w w' := by
  obtain ⟨R, hR⟩ : ∃ R, R = ((((decide ((0 : Int) = how) && decide ((0 : Int) = bits)) && decide ((0 : Int) = since)) && ([] == text.toList))) := ⟨_, rfl⟩
  rw [← hR]
  have RS := hide hr
  clear hr
  by_cases h_how : (0 : Int) = how
  · subst h_how
    by_cases h_bits : (0 : Int) = bits
    · subst h_bits
      by_cases h_since : (0 : Int) = since
      · subst h_since
        cases h_text : ([] == text.toList) with
        | false =>
          have g_text := nil_beq h_text
          have BB := hide (Below.refl w.heap.size w)
          have hA : R = false := by rw [hR]; simp [h_text]
          clear hR
          subst hA
          obtain ⟨ws1, hA⟩ : ∃ X, X = w.alloc (.cells ([.int .i64 6, .string box, .string dst, .slice a set.length c, .int .i64 0, .int .i64 0, .int .i64 0, .string ⟨#[]⟩] : List Value).toArray 30) := ⟨_, rfl⟩
          have Ax : HasObj ws1 w.heap.size 30 [.int .i64 6, .string box, .string dst, .slice a set.length c, .int .i64 0, .int .i64 0, .int .i64 0, .string ⟨#[]⟩] := by rw [hA]; exact HasObj.new _ _ _
          have hbn : Below w.heap.size w ws1 := by rw [hA]; exact (Below.refl _ _).alloc (Nat.le_refl _) _
          have loA : w.heap.size ≤ w.heap.size := (unhide BB).size
          have EA := hA.symm
          clear hA
          have RS_ := hide ((unhide RS).up hbn)
          clear RS
          have RS := RS_
          clear RS_
          have sz1 := hide (hbn.size)
          have BB_ := hide (below_y (unhide BB) hbn)
          clear BB
          have BB := BB_
          clear BB_
          clear hbn
          have A := hide Ax
          clear Ax
          obtain ⟨ws2, hD⟩ : ∃ X, X = ws1.alloc (.cells ([.int .i64 6, .string box, .string dst, .slice a set.length c, .int .i64 0, .int .i64 0, .int .i64 0, .string text] : List Value).toArray 30) := ⟨_, rfl⟩
          have Dx : HasObj ws2 ws1.heap.size 30 [.int .i64 6, .string box, .string dst, .slice a set.length c, .int .i64 0, .int .i64 0, .int .i64 0, .string text] := by rw [hD]; exact HasObj.new _ _ _
          have hbn : Below ws1.heap.size ws1 ws2 := by rw [hD]; exact (Below.refl _ _).alloc (Nat.le_refl _) _
          have neAD : w.heap.size ≠ ws1.heap.size := Nat.ne_of_lt (unhide A).lt
          have loD : w.heap.size ≤ ws1.heap.size := (unhide BB).size
          have ED := hD.symm
          clear hD
          have A_ := hide ((unhide A).ups hbn)
          clear A
          have A := A_
          clear A_
          have RS_ := hide ((unhide RS).up hbn)
          clear RS
          have RS := RS_
          clear RS_
          have sz2 := hide (hbn.size)
          have BB_ := hide (below_y (unhide BB) hbn)
          clear BB
          have BB := BB_
          clear BB_
          clear hbn
          have D := hide Dx
          clear Dx
          have Ac0_1 := (unhide A).cell 0 rfl
          have Ac1_1 := (unhide A).cell 1 rfl
          have Ac2_1 := (unhide A).cell 2 rfl
          have Ac3_1 := (unhide A).cell 3 rfl
          have Ac4_1 := (unhide A).cell 4 rfl
          have Ac5_1 := (unhide A).cell 5 rfl
          have Ac6_1 := (unhide A).cell 6 rfl
          have Ac7_1 := (unhide A).cell 7 rfl
          have Dc0_2 := (unhide D).cell 0 rfl
          have Dc1_2 := (unhide D).cell 1 rfl
          have Dc2_2 := (unhide D).cell 2 rfl
          have Dc3_2 := (unhide D).cell 3 rfl
          have Dc4_2 := (unhide D).cell 4 rfl
          have Dc5_2 := (unhide D).cell 5 rfl
          have Dc6_2 := (unhide D).cell 6 rfl
          have Dc7_2 := (unhide D).cell 7 rfl
          go_enter Tryd.func31, Tryd.ntmps31
          go_wp2_with fail
          clear Ac0_1 Ac1_1 Ac2_1 Ac3_1 Ac4_1 Ac5_1 Ac6_1 Ac7_1 Dc0_2 Dc1_2 Dc2_2 Dc3_2 Dc4_2 Dc5_2 Dc6_2 Dc7_2 EA ED
          refine (equal_self a c set _ hs (unhide RS)).mono ?_
          rintro e ws3 ⟨rfl, hb⟩
          have A_ := hide ((unhide A).ups hb)
          clear A
          have A := A_
          clear A_
          have D_ := hide ((unhide D).ups hb)
          clear D
          have D := D_
          clear D_
          have RS_ := hide ((unhide RS).up hb)
          clear RS
          have RS := RS_
          clear RS_
          have sz3 := hide (hb.size)
          have BB_ := hide (below_y (unhide BB) hb)
          clear BB
          have BB := BB_
          clear BB_
          clear hb
          have Ac0_3 := (unhide A).cell 0 rfl
          have Ac1_3 := (unhide A).cell 1 rfl
          have Ac2_3 := (unhide A).cell 2 rfl
          have Ac3_3 := (unhide A).cell 3 rfl
          have Ac4_3 := (unhide A).cell 4 rfl
          have Ac5_3 := (unhide A).cell 5 rfl
          have Ac6_3 := (unhide A).cell 6 rfl
          have Ac7_3 := (unhide A).cell 7 rfl
          have Dc0_4 := (unhide D).cell 0 rfl
          have Dc1_4 := (unhide D).cell 1 rfl
          have Dc2_4 := (unhide D).cell 2 rfl
          have Dc3_4 := (unhide D).cell 3 rfl
          have Dc4_4 := (unhide D).cell 4 rfl
          have Dc5_4 := (unhide D).cell 5 rfl
          have Dc6_4 := (unhide D).cell 6 rfl
          have Dc7_4 := (unhide D).cell 7 rfl
          go_wp2
          go_ret
          exact ⟨rfl, unhide BB⟩
        | true =>
          have g_text := nil_beq h_text
          have BB := hide (Below.refl w.heap.size w)
          have hA : R = true := by rw [hR]; simp [h_text]
          clear hR
          subst hA
          obtain ⟨ws1, hA⟩ : ∃ X, X = w.alloc (.cells ([.int .i64 6, .string box, .string dst, .slice a set.length c, .int .i64 0, .int .i64 0, .int .i64 0, .string ⟨#[]⟩] : List Value).toArray 30) := ⟨_, rfl⟩
          have Ax : HasObj ws1 w.heap.size 30 [.int .i64 6, .string box, .string dst, .slice a set.length c, .int .i64 0, .int .i64 0, .int .i64 0, .string ⟨#[]⟩] := by rw [hA]; exact HasObj.new _ _ _
          have hbn : Below w.heap.size w ws1 := by rw [hA]; exact (Below.refl _ _).alloc (Nat.le_refl _) _
          have loA : w.heap.size ≤ w.heap.size := (unhide BB).size
          have EA := hA.symm
          clear hA
          have RS_ := hide ((unhide RS).up hbn)
          clear RS
          have RS := RS_
          clear RS_
          have sz1 := hide (hbn.size)
          have BB_ := hide (below_y (unhide BB) hbn)
          clear BB
          have BB := BB_
          clear BB_
          clear hbn
          have A := hide Ax
          clear Ax
          obtain ⟨ws2, hD⟩ : ∃ X, X = ws1.alloc (.cells ([.int .i64 6, .string box, .string dst, .slice a set.length c, .int .i64 0, .int .i64 0, .int .i64 0, .string text] : List Value).toArray 30) := ⟨_, rfl⟩
          have Dx : HasObj ws2 ws1.heap.size 30 [.int .i64 6, .string box, .string dst, .slice a set.length c, .int .i64 0, .int .i64 0, .int .i64 0, .string text] := by rw [hD]; exact HasObj.new _ _ _
          have hbn : Below ws1.heap.size ws1 ws2 := by rw [hD]; exact (Below.refl _ _).alloc (Nat.le_refl _) _
          have neAD : w.heap.size ≠ ws1.heap.size := Nat.ne_of_lt (unhide A).lt
          have loD : w.heap.size ≤ ws1.heap.size := (unhide BB).size
          have ED := hD.symm
          clear hD
          have A_ := hide ((unhide A).ups hbn)
          clear A
          have A := A_
          clear A_
          have RS_ := hide ((unhide RS).up hbn)
          clear RS
          have RS := RS_
          clear RS_
          have sz2 := hide (hbn.size)
          have BB_ := hide (below_y (unhide BB) hbn)
          clear BB
          have BB := BB_
          clear BB_
          clear hbn
          have D := hide Dx
          clear Dx
          have Ac0_1 := (unhide A).cell 0 rfl
          have Ac1_1 := (unhide A).cell 1 rfl
          have Ac2_1 := (unhide A).cell 2 rfl
          have Ac3_1 := (unhide A).cell 3 rfl
          have Ac4_1 := (unhide A).cell 4 rfl
          have Ac5_1 := (unhide A).cell 5 rfl
          have Ac6_1 := (unhide A).cell 6 rfl
          have Ac7_1 := (unhide A).cell 7 rfl
          have Dc0_2 := (unhide D).cell 0 rfl
          have Dc1_2 := (unhide D).cell 1 rfl
          have Dc2_2 := (unhide D).cell 2 rfl
          have Dc3_2 := (unhide D).cell 3 rfl
          have Dc4_2 := (unhide D).cell 4 rfl
          have Dc5_2 := (unhide D).cell 5 rfl
          have Dc6_2 := (unhide D).cell 6 rfl
          have Dc7_2 := (unhide D).cell 7 rfl
          go_enter Tryd.func31, Tryd.ntmps31
          go_wp2_with fail
          clear Ac0_1 Ac1_1 Ac2_1 Ac3_1 Ac4_1 Ac5_1 Ac6_1 Ac7_1 Dc0_2 Dc1_2 Dc2_2 Dc3_2 Dc4_2 Dc5_2 Dc6_2 Dc7_2 EA ED
          refine (equal_self a c set _ hs (unhide RS)).mono ?_
          rintro e ws3 ⟨rfl, hb⟩
          have A_ := hide ((unhide A).ups hb)
          clear A
          have A := A_
          clear A_
          have D_ := hide ((unhide D).ups hb)
          clear D
          have D := D_
          clear D_
          have RS_ := hide ((unhide RS).up hb)
          clear RS
          have RS := RS_
          clear RS_
          have sz3 := hide (hb.size)
          have BB_ := hide (below_y (unhide BB) hb)
          clear BB
          have BB := BB_
          clear BB_
          clear hb
          have Ac0_3 := (unhide A).cell 0 rfl
          have Ac1_3 := (unhide A).cell 1 rfl
          have Ac2_3 := (unhide A).cell 2 rfl
          have Ac3_3 := (unhide A).cell 3 rfl
          have Ac4_3 := (unhide A).cell 4 rfl
          have Ac5_3 := (unhide A).cell 5 rfl
          have Ac6_3 := (unhide A).cell 6 rfl
          have Ac7_3 := (unhide A).cell 7 rfl
          have Dc0_4 := (unhide D).cell 0 rfl
          have Dc1_4 := (unhide D).cell 1 rfl
          have Dc2_4 := (unhide D).cell 2 rfl
          have Dc3_4 := (unhide D).cell 3 rfl
          have Dc4_4 := (unhide D).cell 4 rfl
          have Dc5_4 := (unhide D).cell 5 rfl
          have Dc6_4 := (unhide D).cell 6 rfl
          have Dc7_4 := (unhide D).cell 7 rfl
          go_wp2
          go_ret
          exact ⟨rfl, unhide BB⟩
      · have g_since : ¬ (since = 0) := fun h => h_since h.symm
        have BB := hide (Below.refl w.heap.size w)
        have hA : R = false := by rw [hR]; simp [h_since]
        clear hR
        subst hA
        obtain ⟨ws1, hA⟩ : ∃ X, X = w.alloc (.cells ([.int .i64 6, .string box, .string dst, .slice a set.length c, .int .i64 0, .int .i64 0, .int .i64 0, .string ⟨#[]⟩] : List Value).toArray 30) := ⟨_, rfl⟩
        have Ax : HasObj ws1 w.heap.size 30 [.int .i64 6, .string box, .string dst, .slice a set.length c, .int .i64 0, .int .i64 0, .int .i64 0, .string ⟨#[]⟩] := by rw [hA]; exact HasObj.new _ _ _
        have hbn : Below w.heap.size w ws1 := by rw [hA]; exact (Below.refl _ _).alloc (Nat.le_refl _) _
        have loA : w.heap.size ≤ w.heap.size := (unhide BB).size
        have EA := hA.symm
        clear hA
        have RS_ := hide ((unhide RS).up hbn)
        clear RS
        have RS := RS_
        clear RS_
        have sz1 := hide (hbn.size)
        have BB_ := hide (below_y (unhide BB) hbn)
        clear BB
        have BB := BB_
        clear BB_
        clear hbn
        have A := hide Ax
        clear Ax
        obtain ⟨ws2, hD⟩ : ∃ X, X = ws1.alloc (.cells ([.int .i64 6, .string box, .string dst, .slice a set.length c, .int .i64 0, .int .i64 0, .int .i64 since, .string text] : List Value).toArray 30) := ⟨_, rfl⟩
        have Dx : HasObj ws2 ws1.heap.size 30 [.int .i64 6, .string box, .string dst, .slice a set.length c, .int .i64 0, .int .i64 0, .int .i64 since, .string text] := by rw [hD]; exact HasObj.new _ _ _
        have hbn : Below ws1.heap.size ws1 ws2 := by rw [hD]; exact (Below.refl _ _).alloc (Nat.le_refl _) _
        have neAD : w.heap.size ≠ ws1.heap.size := Nat.ne_of_lt (unhide A).lt
        have loD : w.heap.size ≤ ws1.heap.size := (unhide BB).size
        have ED := hD.symm
        clear hD
        have A_ := hide ((unhide A).ups hbn)
        clear A
        have A := A_
        clear A_
        have RS_ := hide ((unhide RS).up hbn)
        clear RS
        have RS := RS_
        clear RS_
        have sz2 := hide (hbn.size)
        have BB_ := hide (below_y (unhide BB) hbn)
        clear BB
        have BB := BB_
        clear BB_
        clear hbn
        have D := hide Dx
        clear Dx
        have Ac0_1 := (unhide A).cell 0 rfl
        have Ac1_1 := (unhide A).cell 1 rfl
        have Ac2_1 := (unhide A).cell 2 rfl
        have Ac3_1 := (unhide A).cell 3 rfl
        have Ac4_1 := (unhide A).cell 4 rfl
        have Ac5_1 := (unhide A).cell 5 rfl
        have Ac6_1 := (unhide A).cell 6 rfl
        have Ac7_1 := (unhide A).cell 7 rfl
        have Dc0_2 := (unhide D).cell 0 rfl
        have Dc1_2 := (unhide D).cell 1 rfl
        have Dc2_2 := (unhide D).cell 2 rfl
        have Dc3_2 := (unhide D).cell 3 rfl
        have Dc4_2 := (unhide D).cell 4 rfl
        have Dc5_2 := (unhide D).cell 5 rfl
        have Dc6_2 := (unhide D).cell 6 rfl
        have Dc7_2 := (unhide D).cell 7 rfl
        go_enter Tryd.func31, Tryd.ntmps31
        go_wp2_with fail
        clear Ac0_1 Ac1_1 Ac2_1 Ac3_1 Ac4_1 Ac5_1 Ac6_1 Ac7_1 Dc0_2 Dc1_2 Dc2_2 Dc3_2 Dc4_2 Dc5_2 Dc6_2 Dc7_2 EA ED
        refine (equal_self a c set _ hs (unhide RS)).mono ?_
        rintro e ws3 ⟨rfl, hb⟩
        have A_ := hide ((unhide A).ups hb)
        clear A
        have A := A_
        clear A_
        have D_ := hide ((unhide D).ups hb)
        clear D
        have D := D_
        clear D_
        have RS_ := hide ((unhide RS).up hb)
        clear RS
        have RS := RS_
        clear RS_
        have sz3 := hide (hb.size)
        have BB_ := hide (below_y (unhide BB) hb)
        clear BB
        have BB := BB_
        clear BB_
        clear hb
        have Ac0_3 := (unhide A).cell 0 rfl
        have Ac1_3 := (unhide A).cell 1 rfl
        have Ac2_3 := (unhide A).cell 2 rfl
        have Ac3_3 := (unhide A).cell 3 rfl
        have Ac4_3 := (unhide A).cell 4 rfl
        have Ac5_3 := (unhide A).cell 5 rfl
        have Ac6_3 := (unhide A).cell 6 rfl
        have Ac7_3 := (unhide A).cell 7 rfl
        have Dc0_4 := (unhide D).cell 0 rfl
        have Dc1_4 := (unhide D).cell 1 rfl
        have Dc2_4 := (unhide D).cell 2 rfl
        have Dc3_4 := (unhide D).cell 3 rfl
        have Dc4_4 := (unhide D).cell 4 rfl
        have Dc5_4 := (unhide D).cell 5 rfl
        have Dc6_4 := (unhide D).cell 6 rfl
        have Dc7_4 := (unhide D).cell 7 rfl
        go_wp2
        go_ret
        exact ⟨rfl, unhide BB⟩
    · have g_bits : ¬ (bits = 0) := fun h => h_bits h.symm
      have BB := hide (Below.refl w.heap.size w)
      have hA : R = false := by rw [hR]; simp [h_bits]
      clear hR
      subst hA
      obtain ⟨ws1, hA⟩ : ∃ X, X = w.alloc (.cells ([.int .i64 6, .string box, .string dst, .slice a set.length c, .int .i64 0, .int .i64 0, .int .i64 0, .string ⟨#[]⟩] : List Value).toArray 30) := ⟨_, rfl⟩
      have Ax : HasObj ws1 w.heap.size 30 [.int .i64 6, .string box, .string dst, .slice a set.length c, .int .i64 0, .int .i64 0, .int .i64 0, .string ⟨#[]⟩] := by rw [hA]; exact HasObj.new _ _ _
      have hbn : Below w.heap.size w ws1 := by rw [hA]; exact (Below.refl _ _).alloc (Nat.le_refl _) _
      have loA : w.heap.size ≤ w.heap.size := (unhide BB).size
      have EA := hA.symm
      clear hA
      have RS_ := hide ((unhide RS).up hbn)
      clear RS
      have RS := RS_
      clear RS_
      have sz1 := hide (hbn.size)
      have BB_ := hide (below_y (unhide BB) hbn)
      clear BB
      have BB := BB_
      clear BB_
      clear hbn
      have A := hide Ax
      clear Ax
      obtain ⟨ws2, hD⟩ : ∃ X, X = ws1.alloc (.cells ([.int .i64 6, .string box, .string dst, .slice a set.length c, .int .i64 0, .int .i64 bits, .int .i64 since, .string text] : List Value).toArray 30) := ⟨_, rfl⟩
      have Dx : HasObj ws2 ws1.heap.size 30 [.int .i64 6, .string box, .string dst, .slice a set.length c, .int .i64 0, .int .i64 bits, .int .i64 since, .string text] := by rw [hD]; exact HasObj.new _ _ _
      have hbn : Below ws1.heap.size ws1 ws2 := by rw [hD]; exact (Below.refl _ _).alloc (Nat.le_refl _) _
      have neAD : w.heap.size ≠ ws1.heap.size := Nat.ne_of_lt (unhide A).lt
      have loD : w.heap.size ≤ ws1.heap.size := (unhide BB).size
      have ED := hD.symm
      clear hD
      have A_ := hide ((unhide A).ups hbn)
      clear A
      have A := A_
      clear A_
      have RS_ := hide ((unhide RS).up hbn)
      clear RS
      have RS := RS_
      clear RS_
      have sz2 := hide (hbn.size)
      have BB_ := hide (below_y (unhide BB) hbn)
      clear BB
      have BB := BB_
      clear BB_
      clear hbn
      have D := hide Dx
      clear Dx
      have Ac0_1 := (unhide A).cell 0 rfl
      have Ac1_1 := (unhide A).cell 1 rfl
      have Ac2_1 := (unhide A).cell 2 rfl
      have Ac3_1 := (unhide A).cell 3 rfl
      have Ac4_1 := (unhide A).cell 4 rfl
      have Ac5_1 := (unhide A).cell 5 rfl
      have Ac6_1 := (unhide A).cell 6 rfl
      have Ac7_1 := (unhide A).cell 7 rfl
      have Dc0_2 := (unhide D).cell 0 rfl
      have Dc1_2 := (unhide D).cell 1 rfl
      have Dc2_2 := (unhide D).cell 2 rfl
      have Dc3_2 := (unhide D).cell 3 rfl
      have Dc4_2 := (unhide D).cell 4 rfl
      have Dc5_2 := (unhide D).cell 5 rfl
      have Dc6_2 := (unhide D).cell 6 rfl
      have Dc7_2 := (unhide D).cell 7 rfl
      go_enter Tryd.func31, Tryd.ntmps31
      go_wp2_with fail
      clear Ac0_1 Ac1_1 Ac2_1 Ac3_1 Ac4_1 Ac5_1 Ac6_1 Ac7_1 Dc0_2 Dc1_2 Dc2_2 Dc3_2 Dc4_2 Dc5_2 Dc6_2 Dc7_2 EA ED
      refine (equal_self a c set _ hs (unhide RS)).mono ?_
      rintro e ws3 ⟨rfl, hb⟩
      have A_ := hide ((unhide A).ups hb)
      clear A
      have A := A_
      clear A_
      have D_ := hide ((unhide D).ups hb)
      clear D
      have D := D_
      clear D_
      have RS_ := hide ((unhide RS).up hb)
      clear RS
      have RS := RS_
      clear RS_
      have sz3 := hide (hb.size)
      have BB_ := hide (below_y (unhide BB) hb)
      clear BB
      have BB := BB_
      clear BB_
      clear hb
      have Ac0_3 := (unhide A).cell 0 rfl
      have Ac1_3 := (unhide A).cell 1 rfl
      have Ac2_3 := (unhide A).cell 2 rfl
      have Ac3_3 := (unhide A).cell 3 rfl
      have Ac4_3 := (unhide A).cell 4 rfl
      have Ac5_3 := (unhide A).cell 5 rfl
      have Ac6_3 := (unhide A).cell 6 rfl
      have Ac7_3 := (unhide A).cell 7 rfl
      have Dc0_4 := (unhide D).cell 0 rfl
      have Dc1_4 := (unhide D).cell 1 rfl
      have Dc2_4 := (unhide D).cell 2 rfl
      have Dc3_4 := (unhide D).cell 3 rfl
      have Dc4_4 := (unhide D).cell 4 rfl
      have Dc5_4 := (unhide D).cell 5 rfl
      have Dc6_4 := (unhide D).cell 6 rfl
      have Dc7_4 := (unhide D).cell 7 rfl
      go_wp2
      go_ret
      exact ⟨rfl, unhide BB⟩
  · have g_how : ¬ (how = 0) := fun h => h_how h.symm
    have BB := hide (Below.refl w.heap.size w)
    have hA : R = false := by rw [hR]; simp [h_how]
    clear hR
    subst hA
    obtain ⟨ws1, hA⟩ : ∃ X, X = w.alloc (.cells ([.int .i64 6, .string box, .string dst, .slice a set.length c, .int .i64 0, .int .i64 0, .int .i64 0, .string ⟨#[]⟩] : List Value).toArray 30) := ⟨_, rfl⟩
    have Ax : HasObj ws1 w.heap.size 30 [.int .i64 6, .string box, .string dst, .slice a set.length c, .int .i64 0, .int .i64 0, .int .i64 0, .string ⟨#[]⟩] := by rw [hA]; exact HasObj.new _ _ _
    have hbn : Below w.heap.size w ws1 := by rw [hA]; exact (Below.refl _ _).alloc (Nat.le_refl _) _
    have loA : w.heap.size ≤ w.heap.size := (unhide BB).size
    have EA := hA.symm
    clear hA
    have RS_ := hide ((unhide RS).up hbn)
    clear RS
    have RS := RS_
    clear RS_
    have sz1 := hide (hbn.size)
    have BB_ := hide (below_y (unhide BB) hbn)
    clear BB
    have BB := BB_
    clear BB_
    clear hbn
    have A := hide Ax
    clear Ax
    obtain ⟨ws2, hD⟩ : ∃ X, X = ws1.alloc (.cells ([.int .i64 6, .string box, .string dst, .slice a set.length c, .int .i64 how, .int .i64 bits, .int .i64 since, .string text] : List Value).toArray 30) := ⟨_, rfl⟩
    have Dx : HasObj ws2 ws1.heap.size 30 [.int .i64 6, .string box, .string dst, .slice a set.length c, .int .i64 how, .int .i64 bits, .int .i64 since, .string text] := by rw [hD]; exact HasObj.new _ _ _
    have hbn : Below ws1.heap.size ws1 ws2 := by rw [hD]; exact (Below.refl _ _).alloc (Nat.le_refl _) _
    have neAD : w.heap.size ≠ ws1.heap.size := Nat.ne_of_lt (unhide A).lt
    have loD : w.heap.size ≤ ws1.heap.size := (unhide BB).size
    have ED := hD.symm
    clear hD
    have A_ := hide ((unhide A).ups hbn)
    clear A
    have A := A_
    clear A_
    have RS_ := hide ((unhide RS).up hbn)
    clear RS
    have RS := RS_
    clear RS_
    have sz2 := hide (hbn.size)
    have BB_ := hide (below_y (unhide BB) hbn)
    clear BB
    have BB := BB_
    clear BB_
    clear hbn
    have D := hide Dx
    clear Dx
    have Ac0_1 := (unhide A).cell 0 rfl
    have Ac1_1 := (unhide A).cell 1 rfl
    have Ac2_1 := (unhide A).cell 2 rfl
    have Ac3_1 := (unhide A).cell 3 rfl
    have Ac4_1 := (unhide A).cell 4 rfl
    have Ac5_1 := (unhide A).cell 5 rfl
    have Ac6_1 := (unhide A).cell 6 rfl
    have Ac7_1 := (unhide A).cell 7 rfl
    have Dc0_2 := (unhide D).cell 0 rfl
    have Dc1_2 := (unhide D).cell 1 rfl
    have Dc2_2 := (unhide D).cell 2 rfl
    have Dc3_2 := (unhide D).cell 3 rfl
    have Dc4_2 := (unhide D).cell 4 rfl
    have Dc5_2 := (unhide D).cell 5 rfl
    have Dc6_2 := (unhide D).cell 6 rfl
    have Dc7_2 := (unhide D).cell 7 rfl
    go_enter Tryd.func31, Tryd.ntmps31
    go_wp2_with fail
    clear Ac0_1 Ac1_1 Ac2_1 Ac3_1 Ac4_1 Ac5_1 Ac6_1 Ac7_1 Dc0_2 Dc1_2 Dc2_2 Dc3_2 Dc4_2 Dc5_2 Dc6_2 Dc7_2 EA ED
    refine (equal_self a c set _ hs (unhide RS)).mono ?_
    rintro e ws3 ⟨rfl, hb⟩
    have A_ := hide ((unhide A).ups hb)
    clear A
    have A := A_
    clear A_
    have D_ := hide ((unhide D).ups hb)
    clear D
    have D := D_
    clear D_
    have RS_ := hide ((unhide RS).up hb)
    clear RS
    have RS := RS_
    clear RS_
    have sz3 := hide (hb.size)
    have BB_ := hide (below_y (unhide BB) hb)
    clear BB
    have BB := BB_
    clear BB_
    clear hb
    have Ac0_3 := (unhide A).cell 0 rfl
    have Ac1_3 := (unhide A).cell 1 rfl
    have Ac2_3 := (unhide A).cell 2 rfl
    have Ac3_3 := (unhide A).cell 3 rfl
    have Ac4_3 := (unhide A).cell 4 rfl
    have Ac5_3 := (unhide A).cell 5 rfl
    have Ac6_3 := (unhide A).cell 6 rfl
    have Ac7_3 := (unhide A).cell 7 rfl
    have Dc0_4 := (unhide D).cell 0 rfl
    have Dc1_4 := (unhide D).cell 1 rfl
    have Dc2_4 := (unhide D).cell 2 rfl
    have Dc3_4 := (unhide D).cell 3 rfl
    have Dc4_4 := (unhide D).cell 4 rfl
    have Dc5_4 := (unhide D).cell 5 rfl
    have Dc6_4 := (unhide D).cell 6 rfl
    have Dc7_4 := (unhide D).cell 7 rfl
    go_wp2
    go_ret
    exact ⟨rfl, unhide BB⟩
set_option maxHeartbeats 4000000 in
set_option maxRecDepth 100000 in
theorem same7 (box dst text : ByteArray) (set : List Rg) (how bits since : Int) (a : Option Addr) (c : Nat) (w : World) (hs : set.length ≤ 1048576) (hr : ReadO w (.slice a set.length c) set) :
    Calls Tryd.prog 31 #[.agg #[.int .i64 7, .string box, .string dst, .slice a set.length c, .int .i64 0, .int .i64 0, .int .i64 0, .string ⟨#[]⟩], .agg #[.int .i64 7, .string box, .string dst, .slice a set.length c, .int .i64 how, .int .i64 bits, .int .i64 since, .string text]] w fun x w' => x = .returned (.bool ((((decide ((0 : Int) = how) && decide ((0 : Int) = bits)) && decide ((0 : Int) = since)) && ([] == text.toList)))) ∧ Below w.heap.size w w' := by
  obtain ⟨R, hR⟩ : ∃ R, R = ((((decide ((0 : Int) = how) && decide ((0 : Int) = bits)) && decide ((0 : Int) = since)) && ([] == text.toList))) := ⟨_, rfl⟩
  rw [← hR]
  have RS := hide hr
  clear hr
  by_cases h_how : (0 : Int) = how
  · subst h_how
    by_cases h_bits : (0 : Int) = bits
    · subst h_bits
      by_cases h_since : (0 : Int) = since
      · subst h_since
        cases h_text : ([] == text.toList) with
        | false =>
          have g_text := nil_beq h_text
          have BB := hide (Below.refl w.heap.size w)
          have hA : R = false := by rw [hR]; simp [h_text]
          clear hR
          subst hA
          obtain ⟨ws1, hA⟩ : ∃ X, X = w.alloc (.cells ([.int .i64 7, .string box, .string dst, .slice a set.length c, .int .i64 0, .int .i64 0, .int .i64 0, .string ⟨#[]⟩] : List Value).toArray 30) := ⟨_, rfl⟩
          have Ax : HasObj ws1 w.heap.size 30 [.int .i64 7, .string box, .string dst, .slice a set.length c, .int .i64 0, .int .i64 0, .int .i64 0, .string ⟨#[]⟩] := by rw [hA]; exact HasObj.new _ _ _
          have hbn : Below w.heap.size w ws1 := by rw [hA]; exact (Below.refl _ _).alloc (Nat.le_refl _) _
          have loA : w.heap.size ≤ w.heap.size := (unhide BB).size
          have EA := hA.symm
          clear hA
          have RS_ := hide ((unhide RS).up hbn)
          clear RS
          have RS := RS_
          clear RS_
          have sz1 := hide (hbn.size)
          have BB_ := hide (below_y (unhide BB) hbn)
          clear BB
          have BB := BB_
          clear BB_
          clear hbn
          have A := hide Ax
          clear Ax
          obtain ⟨ws2, hD⟩ : ∃ X, X = ws1.alloc (.cells ([.int .i64 7, .string box, .string dst, .slice a set.length c, .int .i64 0, .int .i64 0, .int .i64 0, .string text] : List Value).toArray 30) := ⟨_, rfl⟩
          have Dx : HasObj ws2 ws1.heap.size 30 [.int .i64 7, .string box, .string dst, .slice a set.length c, .int .i64 0, .int .i64 0, .int .i64 0, .string text] := by rw [hD]; exact HasObj.new _ _ _
          have hbn : Below ws1.heap.size ws1 ws2 := by rw [hD]; exact (Below.refl _ _).alloc (Nat.le_refl _) _
          have neAD : w.heap.size ≠ ws1.heap.size := Nat.ne_of_lt (unhide A).lt
          have loD : w.heap.size ≤ ws1.heap.size := (unhide BB).size
          have ED := hD.symm
          clear hD
          have A_ := hide ((unhide A).ups hbn)
          clear A
          have A := A_
          clear A_
          have RS_ := hide ((unhide RS).up hbn)
          clear RS
          have RS := RS_
          clear RS_
          have sz2 := hide (hbn.size)
          have BB_ := hide (below_y (unhide BB) hbn)
          clear BB
          have BB := BB_
          clear BB_
          clear hbn
          have D := hide Dx
          clear Dx
          have Ac0_1 := (unhide A).cell 0 rfl
          have Ac1_1 := (unhide A).cell 1 rfl
          have Ac2_1 := (unhide A).cell 2 rfl
          have Ac3_1 := (unhide A).cell 3 rfl
          have Ac4_1 := (unhide A).cell 4 rfl
          have Ac5_1 := (unhide A).cell 5 rfl
          have Ac6_1 := (unhide A).cell 6 rfl
          have Ac7_1 := (unhide A).cell 7 rfl
          have Dc0_2 := (unhide D).cell 0 rfl
          have Dc1_2 := (unhide D).cell 1 rfl
          have Dc2_2 := (unhide D).cell 2 rfl
          have Dc3_2 := (unhide D).cell 3 rfl
          have Dc4_2 := (unhide D).cell 4 rfl
          have Dc5_2 := (unhide D).cell 5 rfl
          have Dc6_2 := (unhide D).cell 6 rfl
          have Dc7_2 := (unhide D).cell 7 rfl
          go_enter Tryd.func31, Tryd.ntmps31
          go_wp2_with fail
          clear Ac0_1 Ac1_1 Ac2_1 Ac3_1 Ac4_1 Ac5_1 Ac6_1 Ac7_1 Dc0_2 Dc1_2 Dc2_2 Dc3_2 Dc4_2 Dc5_2 Dc6_2 Dc7_2 EA ED
          refine (equal_self a c set _ hs (unhide RS)).mono ?_
          rintro e ws3 ⟨rfl, hb⟩
          have A_ := hide ((unhide A).ups hb)
          clear A
          have A := A_
          clear A_
          have D_ := hide ((unhide D).ups hb)
          clear D
          have D := D_
          clear D_
          have RS_ := hide ((unhide RS).up hb)
          clear RS
          have RS := RS_
          clear RS_
          have sz3 := hide (hb.size)
          have BB_ := hide (below_y (unhide BB) hb)
          clear BB
          have BB := BB_
          clear BB_
          clear hb
          have Ac0_3 := (unhide A).cell 0 rfl
          have Ac1_3 := (unhide A).cell 1 rfl
          have Ac2_3 := (unhide A).cell 2 rfl
          have Ac3_3 := (unhide A).cell 3 rfl
          have Ac4_3 := (unhide A).cell 4 rfl
          have Ac5_3 := (unhide A).cell 5 rfl
          have Ac6_3 := (unhide A).cell 6 rfl
          have Ac7_3 := (unhide A).cell 7 rfl
          have Dc0_4 := (unhide D).cell 0 rfl
          have Dc1_4 := (unhide D).cell 1 rfl
          have Dc2_4 := (unhide D).cell 2 rfl
          have Dc3_4 := (unhide D).cell 3 rfl
          have Dc4_4 := (unhide D).cell 4 rfl
          have Dc5_4 := (unhide D).cell 5 rfl
          have Dc6_4 := (unhide D).cell 6 rfl
          have Dc7_4 := (unhide D).cell 7 rfl
          go_wp2
          go_ret
          exact ⟨rfl, unhide BB⟩
        | true =>
          have g_text := nil_beq h_text
          have BB := hide (Below.refl w.heap.size w)
          have hA : R = true := by rw [hR]; simp [h_text]
          clear hR
          subst hA
          obtain ⟨ws1, hA⟩ : ∃ X, X = w.alloc (.cells ([.int .i64 7, .string box, .string dst, .slice a set.length c, .int .i64 0, .int .i64 0, .int .i64 0, .string ⟨#[]⟩] : List Value).toArray 30) := ⟨_, rfl⟩
          have Ax : HasObj ws1 w.heap.size 30 [.int .i64 7, .string box, .string dst, .slice a set.length c, .int .i64 0, .int .i64 0, .int .i64 0, .string ⟨#[]⟩] := by rw [hA]; exact HasObj.new _ _ _
          have hbn : Below w.heap.size w ws1 := by rw [hA]; exact (Below.refl _ _).alloc (Nat.le_refl _) _
          have loA : w.heap.size ≤ w.heap.size := (unhide BB).size
          have EA := hA.symm
          clear hA
          have RS_ := hide ((unhide RS).up hbn)
          clear RS
          have RS := RS_
          clear RS_
          have sz1 := hide (hbn.size)
          have BB_ := hide (below_y (unhide BB) hbn)
          clear BB
          have BB := BB_
          clear BB_
          clear hbn
          have A := hide Ax
          clear Ax
          obtain ⟨ws2, hD⟩ : ∃ X, X = ws1.alloc (.cells ([.int .i64 7, .string box, .string dst, .slice a set.length c, .int .i64 0, .int .i64 0, .int .i64 0, .string text] : List Value).toArray 30) := ⟨_, rfl⟩
          have Dx : HasObj ws2 ws1.heap.size 30 [.int .i64 7, .string box, .string dst, .slice a set.length c, .int .i64 0, .int .i64 0, .int .i64 0, .string text] := by rw [hD]; exact HasObj.new _ _ _
          have hbn : Below ws1.heap.size ws1 ws2 := by rw [hD]; exact (Below.refl _ _).alloc (Nat.le_refl _) _
          have neAD : w.heap.size ≠ ws1.heap.size := Nat.ne_of_lt (unhide A).lt
          have loD : w.heap.size ≤ ws1.heap.size := (unhide BB).size
          have ED := hD.symm
          clear hD
          have A_ := hide ((unhide A).ups hbn)
          clear A
          have A := A_
          clear A_
          have RS_ := hide ((unhide RS).up hbn)
          clear RS
          have RS := RS_
          clear RS_
          have sz2 := hide (hbn.size)
          have BB_ := hide (below_y (unhide BB) hbn)
          clear BB
          have BB := BB_
          clear BB_
          clear hbn
          have D := hide Dx
          clear Dx
          have Ac0_1 := (unhide A).cell 0 rfl
          have Ac1_1 := (unhide A).cell 1 rfl
          have Ac2_1 := (unhide A).cell 2 rfl
          have Ac3_1 := (unhide A).cell 3 rfl
          have Ac4_1 := (unhide A).cell 4 rfl
          have Ac5_1 := (unhide A).cell 5 rfl
          have Ac6_1 := (unhide A).cell 6 rfl
          have Ac7_1 := (unhide A).cell 7 rfl
          have Dc0_2 := (unhide D).cell 0 rfl
          have Dc1_2 := (unhide D).cell 1 rfl
          have Dc2_2 := (unhide D).cell 2 rfl
          have Dc3_2 := (unhide D).cell 3 rfl
          have Dc4_2 := (unhide D).cell 4 rfl
          have Dc5_2 := (unhide D).cell 5 rfl
          have Dc6_2 := (unhide D).cell 6 rfl
          have Dc7_2 := (unhide D).cell 7 rfl
          go_enter Tryd.func31, Tryd.ntmps31
          go_wp2_with fail
          clear Ac0_1 Ac1_1 Ac2_1 Ac3_1 Ac4_1 Ac5_1 Ac6_1 Ac7_1 Dc0_2 Dc1_2 Dc2_2 Dc3_2 Dc4_2 Dc5_2 Dc6_2 Dc7_2 EA ED
          refine (equal_self a c set _ hs (unhide RS)).mono ?_
          rintro e ws3 ⟨rfl, hb⟩
          have A_ := hide ((unhide A).ups hb)
          clear A
          have A := A_
          clear A_
          have D_ := hide ((unhide D).ups hb)
          clear D
          have D := D_
          clear D_
          have RS_ := hide ((unhide RS).up hb)
          clear RS
          have RS := RS_
          clear RS_
          have sz3 := hide (hb.size)
          have BB_ := hide (below_y (unhide BB) hb)
          clear BB
          have BB := BB_
          clear BB_
          clear hb
          have Ac0_3 := (unhide A).cell 0 rfl
          have Ac1_3 := (unhide A).cell 1 rfl
          have Ac2_3 := (unhide A).cell 2 rfl
          have Ac3_3 := (unhide A).cell 3 rfl
          have Ac4_3 := (unhide A).cell 4 rfl
          have Ac5_3 := (unhide A).cell 5 rfl
          have Ac6_3 := (unhide A).cell 6 rfl
          have Ac7_3 := (unhide A).cell 7 rfl
          have Dc0_4 := (unhide D).cell 0 rfl
          have Dc1_4 := (unhide D).cell 1 rfl
          have Dc2_4 := (unhide D).cell 2 rfl
          have Dc3_4 := (unhide D).cell 3 rfl
          have Dc4_4 := (unhide D).cell 4 rfl
          have Dc5_4 := (unhide D).cell 5 rfl
          have Dc6_4 := (unhide D).cell 6 rfl
          have Dc7_4 := (unhide D).cell 7 rfl
          go_wp2
          go_ret
          exact ⟨rfl, unhide BB⟩
      · have g_since : ¬ (since = 0) := fun h => h_since h.symm
        have BB := hide (Below.refl w.heap.size w)
        have hA : R = false := by rw [hR]; simp [h_since]
        clear hR
        subst hA
        obtain ⟨ws1, hA⟩ : ∃ X, X = w.alloc (.cells ([.int .i64 7, .string box, .string dst, .slice a set.length c, .int .i64 0, .int .i64 0, .int .i64 0, .string ⟨#[]⟩] : List Value).toArray 30) := ⟨_, rfl⟩
        have Ax : HasObj ws1 w.heap.size 30 [.int .i64 7, .string box, .string dst, .slice a set.length c, .int .i64 0, .int .i64 0, .int .i64 0, .string ⟨#[]⟩] := by rw [hA]; exact HasObj.new _ _ _
        have hbn : Below w.heap.size w ws1 := by rw [hA]; exact (Below.refl _ _).alloc (Nat.le_refl _) _
        have loA : w.heap.size ≤ w.heap.size := (unhide BB).size
        have EA := hA.symm
        clear hA
        have RS_ := hide ((unhide RS).up hbn)
        clear RS
        have RS := RS_
        clear RS_
        have sz1 := hide (hbn.size)
        have BB_ := hide (below_y (unhide BB) hbn)
        clear BB
        have BB := BB_
        clear BB_
        clear hbn
        have A := hide Ax
        clear Ax
        obtain ⟨ws2, hD⟩ : ∃ X, X = ws1.alloc (.cells ([.int .i64 7, .string box, .string dst, .slice a set.length c, .int .i64 0, .int .i64 0, .int .i64 since, .string text] : List Value).toArray 30) := ⟨_, rfl⟩
        have Dx : HasObj ws2 ws1.heap.size 30 [.int .i64 7, .string box, .string dst, .slice a set.length c, .int .i64 0, .int .i64 0, .int .i64 since, .string text] := by rw [hD]; exact HasObj.new _ _ _
        have hbn : Below ws1.heap.size ws1 ws2 := by rw [hD]; exact (Below.refl _ _).alloc (Nat.le_refl _) _
        have neAD : w.heap.size ≠ ws1.heap.size := Nat.ne_of_lt (unhide A).lt
        have loD : w.heap.size ≤ ws1.heap.size := (unhide BB).size
        have ED := hD.symm
        clear hD
        have A_ := hide ((unhide A).ups hbn)
        clear A
        have A := A_
        clear A_
        have RS_ := hide ((unhide RS).up hbn)
        clear RS
        have RS := RS_
        clear RS_
        have sz2 := hide (hbn.size)
        have BB_ := hide (below_y (unhide BB) hbn)
        clear BB
        have BB := BB_
        clear BB_
        clear hbn
        have D := hide Dx
        clear Dx
        have Ac0_1 := (unhide A).cell 0 rfl
        have Ac1_1 := (unhide A).cell 1 rfl
        have Ac2_1 := (unhide A).cell 2 rfl
        have Ac3_1 := (unhide A).cell 3 rfl
        have Ac4_1 := (unhide A).cell 4 rfl
        have Ac5_1 := (unhide A).cell 5 rfl
        have Ac6_1 := (unhide A).cell 6 rfl
        have Ac7_1 := (unhide A).cell 7 rfl
        have Dc0_2 := (unhide D).cell 0 rfl
        have Dc1_2 := (unhide D).cell 1 rfl
        have Dc2_2 := (unhide D).cell 2 rfl
        have Dc3_2 := (unhide D).cell 3 rfl
        have Dc4_2 := (unhide D).cell 4 rfl
        have Dc5_2 := (unhide D).cell 5 rfl
        have Dc6_2 := (unhide D).cell 6 rfl
        have Dc7_2 := (unhide D).cell 7 rfl
        go_enter Tryd.func31, Tryd.ntmps31
        go_wp2_with fail
        clear Ac0_1 Ac1_1 Ac2_1 Ac3_1 Ac4_1 Ac5_1 Ac6_1 Ac7_1 Dc0_2 Dc1_2 Dc2_2 Dc3_2 Dc4_2 Dc5_2 Dc6_2 Dc7_2 EA ED
        refine (equal_self a c set _ hs (unhide RS)).mono ?_
        rintro e ws3 ⟨rfl, hb⟩
        have A_ := hide ((unhide A).ups hb)
        clear A
        have A := A_
        clear A_
        have D_ := hide ((unhide D).ups hb)
        clear D
        have D := D_
        clear D_
        have RS_ := hide ((unhide RS).up hb)
        clear RS
        have RS := RS_
        clear RS_
        have sz3 := hide (hb.size)
        have BB_ := hide (below_y (unhide BB) hb)
        clear BB
        have BB := BB_
        clear BB_
        clear hb
        have Ac0_3 := (unhide A).cell 0 rfl
        have Ac1_3 := (unhide A).cell 1 rfl
        have Ac2_3 := (unhide A).cell 2 rfl
        have Ac3_3 := (unhide A).cell 3 rfl
        have Ac4_3 := (unhide A).cell 4 rfl
        have Ac5_3 := (unhide A).cell 5 rfl
        have Ac6_3 := (unhide A).cell 6 rfl
        have Ac7_3 := (unhide A).cell 7 rfl
        have Dc0_4 := (unhide D).cell 0 rfl
        have Dc1_4 := (unhide D).cell 1 rfl
        have Dc2_4 := (unhide D).cell 2 rfl
        have Dc3_4 := (unhide D).cell 3 rfl
        have Dc4_4 := (unhide D).cell 4 rfl
        have Dc5_4 := (unhide D).cell 5 rfl
        have Dc6_4 := (unhide D).cell 6 rfl
        have Dc7_4 := (unhide D).cell 7 rfl
        go_wp2
        go_ret
        exact ⟨rfl, unhide BB⟩
    · have g_bits : ¬ (bits = 0) := fun h => h_bits h.symm
      have BB := hide (Below.refl w.heap.size w)
      have hA : R = false := by rw [hR]; simp [h_bits]
      clear hR
      subst hA
      obtain ⟨ws1, hA⟩ : ∃ X, X = w.alloc (.cells ([.int .i64 7, .string box, .string dst, .slice a set.length c, .int .i64 0, .int .i64 0, .int .i64 0, .string ⟨#[]⟩] : List Value).toArray 30) := ⟨_, rfl⟩
      have Ax : HasObj ws1 w.heap.size 30 [.int .i64 7, .string box, .string dst, .slice a set.length c, .int .i64 0, .int .i64 0, .int .i64 0, .string ⟨#[]⟩] := by rw [hA]; exact HasObj.new _ _ _
      have hbn : Below w.heap.size w ws1 := by rw [hA]; exact (Below.refl _ _).alloc (Nat.le_refl _) _
      have loA : w.heap.size ≤ w.heap.size := (unhide BB).size
      have EA := hA.symm
      clear hA
      have RS_ := hide ((unhide RS).up hbn)
      clear RS
      have RS := RS_
      clear RS_
      have sz1 := hide (hbn.size)
      have BB_ := hide (below_y (unhide BB) hbn)
      clear BB
      have BB := BB_
      clear BB_
      clear hbn
      have A := hide Ax
      clear Ax
      obtain ⟨ws2, hD⟩ : ∃ X, X = ws1.alloc (.cells ([.int .i64 7, .string box, .string dst, .slice a set.length c, .int .i64 0, .int .i64 bits, .int .i64 since, .string text] : List Value).toArray 30) := ⟨_, rfl⟩
      have Dx : HasObj ws2 ws1.heap.size 30 [.int .i64 7, .string box, .string dst, .slice a set.length c, .int .i64 0, .int .i64 bits, .int .i64 since, .string text] := by rw [hD]; exact HasObj.new _ _ _
      have hbn : Below ws1.heap.size ws1 ws2 := by rw [hD]; exact (Below.refl _ _).alloc (Nat.le_refl _) _
      have neAD : w.heap.size ≠ ws1.heap.size := Nat.ne_of_lt (unhide A).lt
      have loD : w.heap.size ≤ ws1.heap.size := (unhide BB).size
      have ED := hD.symm
      clear hD
      have A_ := hide ((unhide A).ups hbn)
      clear A
      have A := A_
      clear A_
      have RS_ := hide ((unhide RS).up hbn)
      clear RS
      have RS := RS_
      clear RS_
      have sz2 := hide (hbn.size)
      have BB_ := hide (below_y (unhide BB) hbn)
      clear BB
      have BB := BB_
      clear BB_
      clear hbn
      have D := hide Dx
      clear Dx
      have Ac0_1 := (unhide A).cell 0 rfl
      have Ac1_1 := (unhide A).cell 1 rfl
      have Ac2_1 := (unhide A).cell 2 rfl
      have Ac3_1 := (unhide A).cell 3 rfl
      have Ac4_1 := (unhide A).cell 4 rfl
      have Ac5_1 := (unhide A).cell 5 rfl
      have Ac6_1 := (unhide A).cell 6 rfl
      have Ac7_1 := (unhide A).cell 7 rfl
      have Dc0_2 := (unhide D).cell 0 rfl
      have Dc1_2 := (unhide D).cell 1 rfl
      have Dc2_2 := (unhide D).cell 2 rfl
      have Dc3_2 := (unhide D).cell 3 rfl
      have Dc4_2 := (unhide D).cell 4 rfl
      have Dc5_2 := (unhide D).cell 5 rfl
      have Dc6_2 := (unhide D).cell 6 rfl
      have Dc7_2 := (unhide D).cell 7 rfl
      go_enter Tryd.func31, Tryd.ntmps31
      go_wp2_with fail
      clear Ac0_1 Ac1_1 Ac2_1 Ac3_1 Ac4_1 Ac5_1 Ac6_1 Ac7_1 Dc0_2 Dc1_2 Dc2_2 Dc3_2 Dc4_2 Dc5_2 Dc6_2 Dc7_2 EA ED
      refine (equal_self a c set _ hs (unhide RS)).mono ?_
      rintro e ws3 ⟨rfl, hb⟩
      have A_ := hide ((unhide A).ups hb)
      clear A
      have A := A_
      clear A_
      have D_ := hide ((unhide D).ups hb)
      clear D
      have D := D_
      clear D_
      have RS_ := hide ((unhide RS).up hb)
      clear RS
      have RS := RS_
      clear RS_
      have sz3 := hide (hb.size)
      have BB_ := hide (below_y (unhide BB) hb)
      clear BB
      have BB := BB_
      clear BB_
      clear hb
      have Ac0_3 := (unhide A).cell 0 rfl
      have Ac1_3 := (unhide A).cell 1 rfl
      have Ac2_3 := (unhide A).cell 2 rfl
      have Ac3_3 := (unhide A).cell 3 rfl
      have Ac4_3 := (unhide A).cell 4 rfl
      have Ac5_3 := (unhide A).cell 5 rfl
      have Ac6_3 := (unhide A).cell 6 rfl
      have Ac7_3 := (unhide A).cell 7 rfl
      have Dc0_4 := (unhide D).cell 0 rfl
      have Dc1_4 := (unhide D).cell 1 rfl
      have Dc2_4 := (unhide D).cell 2 rfl
      have Dc3_4 := (unhide D).cell 3 rfl
      have Dc4_4 := (unhide D).cell 4 rfl
      have Dc5_4 := (unhide D).cell 5 rfl
      have Dc6_4 := (unhide D).cell 6 rfl
      have Dc7_4 := (unhide D).cell 7 rfl
      go_wp2
      go_ret
      exact ⟨rfl, unhide BB⟩
  · have g_how : ¬ (how = 0) := fun h => h_how h.symm
    have BB := hide (Below.refl w.heap.size w)
    have hA : R = false := by rw [hR]; simp [h_how]
    clear hR
    subst hA
    obtain ⟨ws1, hA⟩ : ∃ X, X = w.alloc (.cells ([.int .i64 7, .string box, .string dst, .slice a set.length c, .int .i64 0, .int .i64 0, .int .i64 0, .string ⟨#[]⟩] : List Value).toArray 30) := ⟨_, rfl⟩
    have Ax : HasObj ws1 w.heap.size 30 [.int .i64 7, .string box, .string dst, .slice a set.length c, .int .i64 0, .int .i64 0, .int .i64 0, .string ⟨#[]⟩] := by rw [hA]; exact HasObj.new _ _ _
    have hbn : Below w.heap.size w ws1 := by rw [hA]; exact (Below.refl _ _).alloc (Nat.le_refl _) _
    have loA : w.heap.size ≤ w.heap.size := (unhide BB).size
    have EA := hA.symm
    clear hA
    have RS_ := hide ((unhide RS).up hbn)
    clear RS
    have RS := RS_
    clear RS_
    have sz1 := hide (hbn.size)
    have BB_ := hide (below_y (unhide BB) hbn)
    clear BB
    have BB := BB_
    clear BB_
    clear hbn
    have A := hide Ax
    clear Ax
    obtain ⟨ws2, hD⟩ : ∃ X, X = ws1.alloc (.cells ([.int .i64 7, .string box, .string dst, .slice a set.length c, .int .i64 how, .int .i64 bits, .int .i64 since, .string text] : List Value).toArray 30) := ⟨_, rfl⟩
    have Dx : HasObj ws2 ws1.heap.size 30 [.int .i64 7, .string box, .string dst, .slice a set.length c, .int .i64 how, .int .i64 bits, .int .i64 since, .string text] := by rw [hD]; exact HasObj.new _ _ _
    have hbn : Below ws1.heap.size ws1 ws2 := by rw [hD]; exact (Below.refl _ _).alloc (Nat.le_refl _) _
    have neAD : w.heap.size ≠ ws1.heap.size := Nat.ne_of_lt (unhide A).lt
    have loD : w.heap.size ≤ ws1.heap.size := (unhide BB).size
    have ED := hD.symm
    clear hD
    have A_ := hide ((unhide A).ups hbn)
    clear A
    have A := A_
    clear A_
    have RS_ := hide ((unhide RS).up hbn)
    clear RS
    have RS := RS_
    clear RS_
    have sz2 := hide (hbn.size)
    have BB_ := hide (below_y (unhide BB) hbn)
    clear BB
    have BB := BB_
    clear BB_
    clear hbn
    have D := hide Dx
    clear Dx
    have Ac0_1 := (unhide A).cell 0 rfl
    have Ac1_1 := (unhide A).cell 1 rfl
    have Ac2_1 := (unhide A).cell 2 rfl
    have Ac3_1 := (unhide A).cell 3 rfl
    have Ac4_1 := (unhide A).cell 4 rfl
    have Ac5_1 := (unhide A).cell 5 rfl
    have Ac6_1 := (unhide A).cell 6 rfl
    have Ac7_1 := (unhide A).cell 7 rfl
    have Dc0_2 := (unhide D).cell 0 rfl
    have Dc1_2 := (unhide D).cell 1 rfl
    have Dc2_2 := (unhide D).cell 2 rfl
    have Dc3_2 := (unhide D).cell 3 rfl
    have Dc4_2 := (unhide D).cell 4 rfl
    have Dc5_2 := (unhide D).cell 5 rfl
    have Dc6_2 := (unhide D).cell 6 rfl
    have Dc7_2 := (unhide D).cell 7 rfl
    go_enter Tryd.func31, Tryd.ntmps31
    go_wp2_with fail
    clear Ac0_1 Ac1_1 Ac2_1 Ac3_1 Ac4_1 Ac5_1 Ac6_1 Ac7_1 Dc0_2 Dc1_2 Dc2_2 Dc3_2 Dc4_2 Dc5_2 Dc6_2 Dc7_2 EA ED
    refine (equal_self a c set _ hs (unhide RS)).mono ?_
    rintro e ws3 ⟨rfl, hb⟩
    have A_ := hide ((unhide A).ups hb)
    clear A
    have A := A_
    clear A_
    have D_ := hide ((unhide D).ups hb)
    clear D
    have D := D_
    clear D_
    have RS_ := hide ((unhide RS).up hb)
    clear RS
    have RS := RS_
    clear RS_
    have sz3 := hide (hb.size)
    have BB_ := hide (below_y (unhide BB) hb)
    clear BB
    have BB := BB_
    clear BB_
    clear hb
    have Ac0_3 := (unhide A).cell 0 rfl
    have Ac1_3 := (unhide A).cell 1 rfl
    have Ac2_3 := (unhide A).cell 2 rfl
    have Ac3_3 := (unhide A).cell 3 rfl
    have Ac4_3 := (unhide A).cell 4 rfl
    have Ac5_3 := (unhide A).cell 5 rfl
    have Ac6_3 := (unhide A).cell 6 rfl
    have Ac7_3 := (unhide A).cell 7 rfl
    have Dc0_4 := (unhide D).cell 0 rfl
    have Dc1_4 := (unhide D).cell 1 rfl
    have Dc2_4 := (unhide D).cell 2 rfl
    have Dc3_4 := (unhide D).cell 3 rfl
    have Dc4_4 := (unhide D).cell 4 rfl
    have Dc5_4 := (unhide D).cell 5 rfl
    have Dc6_4 := (unhide D).cell 6 rfl
    have Dc7_4 := (unhide D).cell 7 rfl
    go_wp2
    go_ret
    exact ⟨rfl, unhide BB⟩
set_option maxHeartbeats 4000000 in
set_option maxRecDepth 100000 in
theorem same8 (box dst text : ByteArray) (n : Nat) (how bits since : Int) (a : Option Addr) (c : Nat) (w : World) (hs : n ≤ 1048576) :
    Calls Tryd.prog 31 #[.agg #[.int .i64 8, .string box, .string ⟨#[]⟩, .slice none 0 0, .int .i64 0, .int .i64 0, .int .i64 since, .string ⟨#[]⟩], .agg #[.int .i64 8, .string box, .string dst, .slice a n c, .int .i64 how, .int .i64 bits, .int .i64 since, .string text]] w fun x w' => x = .returned (.bool (((((([] == dst.toList) && decide (n = 0)) && decide ((0 : Int) = how)) && decide ((0 : Int) = bits)) && ([] == text.toList)))) ∧ Below w.heap.size w w' := by
  obtain ⟨R, hR⟩ : ∃ R, R = (((((([] == dst.toList) && decide (n = 0)) && decide ((0 : Int) = how)) && decide ((0 : Int) = bits)) && ([] == text.toList))) := ⟨_, rfl⟩
  rw [← hR]
  cases h_dst : ([] == dst.toList) with
  | false =>
    have g_dst := nil_beq h_dst
    have BB := hide (Below.refl w.heap.size w)
    have hA : R = false := by rw [hR]; simp [h_dst]
    clear hR
    subst hA
    obtain ⟨ws1, hA⟩ : ∃ X, X = w.alloc (.cells ([.int .i64 8, .string box, .string ⟨#[]⟩, .slice none 0 0, .int .i64 0, .int .i64 0, .int .i64 since, .string ⟨#[]⟩] : List Value).toArray 30) := ⟨_, rfl⟩
    have Ax : HasObj ws1 w.heap.size 30 [.int .i64 8, .string box, .string ⟨#[]⟩, .slice none 0 0, .int .i64 0, .int .i64 0, .int .i64 since, .string ⟨#[]⟩] := by rw [hA]; exact HasObj.new _ _ _
    have hbn : Below w.heap.size w ws1 := by rw [hA]; exact (Below.refl _ _).alloc (Nat.le_refl _) _
    have loA : w.heap.size ≤ w.heap.size := (unhide BB).size
    have EA := hA.symm
    clear hA
    have sz1 := hide (hbn.size)
    have BB_ := hide (below_y (unhide BB) hbn)
    clear BB
    have BB := BB_
    clear BB_
    clear hbn
    have A := hide Ax
    clear Ax
    obtain ⟨ws2, hD⟩ : ∃ X, X = ws1.alloc (.cells ([.int .i64 8, .string box, .string dst, .slice a n c, .int .i64 how, .int .i64 bits, .int .i64 since, .string text] : List Value).toArray 30) := ⟨_, rfl⟩
    have Dx : HasObj ws2 ws1.heap.size 30 [.int .i64 8, .string box, .string dst, .slice a n c, .int .i64 how, .int .i64 bits, .int .i64 since, .string text] := by rw [hD]; exact HasObj.new _ _ _
    have hbn : Below ws1.heap.size ws1 ws2 := by rw [hD]; exact (Below.refl _ _).alloc (Nat.le_refl _) _
    have neAD : w.heap.size ≠ ws1.heap.size := Nat.ne_of_lt (unhide A).lt
    have loD : w.heap.size ≤ ws1.heap.size := (unhide BB).size
    have ED := hD.symm
    clear hD
    have A_ := hide ((unhide A).ups hbn)
    clear A
    have A := A_
    clear A_
    have sz2 := hide (hbn.size)
    have BB_ := hide (below_y (unhide BB) hbn)
    clear BB
    have BB := BB_
    clear BB_
    clear hbn
    have D := hide Dx
    clear Dx
    have Ac0_1 := (unhide A).cell 0 rfl
    have Ac1_1 := (unhide A).cell 1 rfl
    have Ac2_1 := (unhide A).cell 2 rfl
    have Ac3_1 := (unhide A).cell 3 rfl
    have Ac4_1 := (unhide A).cell 4 rfl
    have Ac5_1 := (unhide A).cell 5 rfl
    have Ac6_1 := (unhide A).cell 6 rfl
    have Ac7_1 := (unhide A).cell 7 rfl
    have Dc0_2 := (unhide D).cell 0 rfl
    have Dc1_2 := (unhide D).cell 1 rfl
    have Dc2_2 := (unhide D).cell 2 rfl
    have Dc3_2 := (unhide D).cell 3 rfl
    have Dc4_2 := (unhide D).cell 4 rfl
    have Dc5_2 := (unhide D).cell 5 rfl
    have Dc6_2 := (unhide D).cell 6 rfl
    have Dc7_2 := (unhide D).cell 7 rfl
    go_enter Tryd.func31, Tryd.ntmps31
    go_wp2
    go_ret
    exact ⟨rfl, unhide BB⟩
  | true =>
    have g_dst := nil_beq h_dst
    by_cases h_set : n = 0
    · subst h_set
      by_cases h_how : (0 : Int) = how
      · subst h_how
        by_cases h_bits : (0 : Int) = bits
        · subst h_bits
          cases h_text : ([] == text.toList) with
          | false =>
            have g_text := nil_beq h_text
            have BB := hide (Below.refl w.heap.size w)
            have hA : R = false := by rw [hR]; simp [h_dst, h_text]
            clear hR
            subst hA
            obtain ⟨ws1, hA⟩ : ∃ X, X = w.alloc (.cells ([.int .i64 8, .string box, .string ⟨#[]⟩, .slice none 0 0, .int .i64 0, .int .i64 0, .int .i64 since, .string ⟨#[]⟩] : List Value).toArray 30) := ⟨_, rfl⟩
            have Ax : HasObj ws1 w.heap.size 30 [.int .i64 8, .string box, .string ⟨#[]⟩, .slice none 0 0, .int .i64 0, .int .i64 0, .int .i64 since, .string ⟨#[]⟩] := by rw [hA]; exact HasObj.new _ _ _
            have hbn : Below w.heap.size w ws1 := by rw [hA]; exact (Below.refl _ _).alloc (Nat.le_refl _) _
            have loA : w.heap.size ≤ w.heap.size := (unhide BB).size
            have EA := hA.symm
            clear hA
            have sz1 := hide (hbn.size)
            have BB_ := hide (below_y (unhide BB) hbn)
            clear BB
            have BB := BB_
            clear BB_
            clear hbn
            have A := hide Ax
            clear Ax
            obtain ⟨ws2, hD⟩ : ∃ X, X = ws1.alloc (.cells ([.int .i64 8, .string box, .string dst, .slice a 0 c, .int .i64 0, .int .i64 0, .int .i64 since, .string text] : List Value).toArray 30) := ⟨_, rfl⟩
            have Dx : HasObj ws2 ws1.heap.size 30 [.int .i64 8, .string box, .string dst, .slice a 0 c, .int .i64 0, .int .i64 0, .int .i64 since, .string text] := by rw [hD]; exact HasObj.new _ _ _
            have hbn : Below ws1.heap.size ws1 ws2 := by rw [hD]; exact (Below.refl _ _).alloc (Nat.le_refl _) _
            have neAD : w.heap.size ≠ ws1.heap.size := Nat.ne_of_lt (unhide A).lt
            have loD : w.heap.size ≤ ws1.heap.size := (unhide BB).size
            have ED := hD.symm
            clear hD
            have A_ := hide ((unhide A).ups hbn)
            clear A
            have A := A_
            clear A_
            have sz2 := hide (hbn.size)
            have BB_ := hide (below_y (unhide BB) hbn)
            clear BB
            have BB := BB_
            clear BB_
            clear hbn
            have D := hide Dx
            clear Dx
            have Ac0_1 := (unhide A).cell 0 rfl
            have Ac1_1 := (unhide A).cell 1 rfl
            have Ac2_1 := (unhide A).cell 2 rfl
            have Ac3_1 := (unhide A).cell 3 rfl
            have Ac4_1 := (unhide A).cell 4 rfl
            have Ac5_1 := (unhide A).cell 5 rfl
            have Ac6_1 := (unhide A).cell 6 rfl
            have Ac7_1 := (unhide A).cell 7 rfl
            have Dc0_2 := (unhide D).cell 0 rfl
            have Dc1_2 := (unhide D).cell 1 rfl
            have Dc2_2 := (unhide D).cell 2 rfl
            have Dc3_2 := (unhide D).cell 3 rfl
            have Dc4_2 := (unhide D).cell 4 rfl
            have Dc5_2 := (unhide D).cell 5 rfl
            have Dc6_2 := (unhide D).cell 6 rfl
            have Dc7_2 := (unhide D).cell 7 rfl
            go_enter Tryd.func31, Tryd.ntmps31
            go_wp2_with fail
            clear Ac0_1 Ac1_1 Ac2_1 Ac3_1 Ac4_1 Ac5_1 Ac6_1 Ac7_1 Dc0_2 Dc1_2 Dc2_2 Dc3_2 Dc4_2 Dc5_2 Dc6_2 Dc7_2 EA ED
            refine (equal_nil a c _ _ hs).mono ?_
            rintro e ws3 ⟨rfl, hb⟩
            have A_ := hide ((unhide A).ups hb)
            clear A
            have A := A_
            clear A_
            have D_ := hide ((unhide D).ups hb)
            clear D
            have D := D_
            clear D_
            have sz3 := hide (hb.size)
            have BB_ := hide (below_y (unhide BB) hb)
            clear BB
            have BB := BB_
            clear BB_
            clear hb
            rw [show decide ((0 : Nat) = 0) = true from rfl]
            have Ac0_3 := (unhide A).cell 0 rfl
            have Ac1_3 := (unhide A).cell 1 rfl
            have Ac2_3 := (unhide A).cell 2 rfl
            have Ac3_3 := (unhide A).cell 3 rfl
            have Ac4_3 := (unhide A).cell 4 rfl
            have Ac5_3 := (unhide A).cell 5 rfl
            have Ac6_3 := (unhide A).cell 6 rfl
            have Ac7_3 := (unhide A).cell 7 rfl
            have Dc0_4 := (unhide D).cell 0 rfl
            have Dc1_4 := (unhide D).cell 1 rfl
            have Dc2_4 := (unhide D).cell 2 rfl
            have Dc3_4 := (unhide D).cell 3 rfl
            have Dc4_4 := (unhide D).cell 4 rfl
            have Dc5_4 := (unhide D).cell 5 rfl
            have Dc6_4 := (unhide D).cell 6 rfl
            have Dc7_4 := (unhide D).cell 7 rfl
            go_wp2
            go_ret
            exact ⟨rfl, unhide BB⟩
          | true =>
            have g_text := nil_beq h_text
            have BB := hide (Below.refl w.heap.size w)
            have hA : R = true := by rw [hR]; simp [h_dst, h_text]
            clear hR
            subst hA
            obtain ⟨ws1, hA⟩ : ∃ X, X = w.alloc (.cells ([.int .i64 8, .string box, .string ⟨#[]⟩, .slice none 0 0, .int .i64 0, .int .i64 0, .int .i64 since, .string ⟨#[]⟩] : List Value).toArray 30) := ⟨_, rfl⟩
            have Ax : HasObj ws1 w.heap.size 30 [.int .i64 8, .string box, .string ⟨#[]⟩, .slice none 0 0, .int .i64 0, .int .i64 0, .int .i64 since, .string ⟨#[]⟩] := by rw [hA]; exact HasObj.new _ _ _
            have hbn : Below w.heap.size w ws1 := by rw [hA]; exact (Below.refl _ _).alloc (Nat.le_refl _) _
            have loA : w.heap.size ≤ w.heap.size := (unhide BB).size
            have EA := hA.symm
            clear hA
            have sz1 := hide (hbn.size)
            have BB_ := hide (below_y (unhide BB) hbn)
            clear BB
            have BB := BB_
            clear BB_
            clear hbn
            have A := hide Ax
            clear Ax
            obtain ⟨ws2, hD⟩ : ∃ X, X = ws1.alloc (.cells ([.int .i64 8, .string box, .string dst, .slice a 0 c, .int .i64 0, .int .i64 0, .int .i64 since, .string text] : List Value).toArray 30) := ⟨_, rfl⟩
            have Dx : HasObj ws2 ws1.heap.size 30 [.int .i64 8, .string box, .string dst, .slice a 0 c, .int .i64 0, .int .i64 0, .int .i64 since, .string text] := by rw [hD]; exact HasObj.new _ _ _
            have hbn : Below ws1.heap.size ws1 ws2 := by rw [hD]; exact (Below.refl _ _).alloc (Nat.le_refl _) _
            have neAD : w.heap.size ≠ ws1.heap.size := Nat.ne_of_lt (unhide A).lt
            have loD : w.heap.size ≤ ws1.heap.size := (unhide BB).size
            have ED := hD.symm
            clear hD
            have A_ := hide ((unhide A).ups hbn)
            clear A
            have A := A_
            clear A_
            have sz2 := hide (hbn.size)
            have BB_ := hide (below_y (unhide BB) hbn)
            clear BB
            have BB := BB_
            clear BB_
            clear hbn
            have D := hide Dx
            clear Dx
            have Ac0_1 := (unhide A).cell 0 rfl
            have Ac1_1 := (unhide A).cell 1 rfl
            have Ac2_1 := (unhide A).cell 2 rfl
            have Ac3_1 := (unhide A).cell 3 rfl
            have Ac4_1 := (unhide A).cell 4 rfl
            have Ac5_1 := (unhide A).cell 5 rfl
            have Ac6_1 := (unhide A).cell 6 rfl
            have Ac7_1 := (unhide A).cell 7 rfl
            have Dc0_2 := (unhide D).cell 0 rfl
            have Dc1_2 := (unhide D).cell 1 rfl
            have Dc2_2 := (unhide D).cell 2 rfl
            have Dc3_2 := (unhide D).cell 3 rfl
            have Dc4_2 := (unhide D).cell 4 rfl
            have Dc5_2 := (unhide D).cell 5 rfl
            have Dc6_2 := (unhide D).cell 6 rfl
            have Dc7_2 := (unhide D).cell 7 rfl
            go_enter Tryd.func31, Tryd.ntmps31
            go_wp2_with fail
            clear Ac0_1 Ac1_1 Ac2_1 Ac3_1 Ac4_1 Ac5_1 Ac6_1 Ac7_1 Dc0_2 Dc1_2 Dc2_2 Dc3_2 Dc4_2 Dc5_2 Dc6_2 Dc7_2 EA ED
            refine (equal_nil a c _ _ hs).mono ?_
            rintro e ws3 ⟨rfl, hb⟩
            have A_ := hide ((unhide A).ups hb)
            clear A
            have A := A_
            clear A_
            have D_ := hide ((unhide D).ups hb)
            clear D
            have D := D_
            clear D_
            have sz3 := hide (hb.size)
            have BB_ := hide (below_y (unhide BB) hb)
            clear BB
            have BB := BB_
            clear BB_
            clear hb
            rw [show decide ((0 : Nat) = 0) = true from rfl]
            have Ac0_3 := (unhide A).cell 0 rfl
            have Ac1_3 := (unhide A).cell 1 rfl
            have Ac2_3 := (unhide A).cell 2 rfl
            have Ac3_3 := (unhide A).cell 3 rfl
            have Ac4_3 := (unhide A).cell 4 rfl
            have Ac5_3 := (unhide A).cell 5 rfl
            have Ac6_3 := (unhide A).cell 6 rfl
            have Ac7_3 := (unhide A).cell 7 rfl
            have Dc0_4 := (unhide D).cell 0 rfl
            have Dc1_4 := (unhide D).cell 1 rfl
            have Dc2_4 := (unhide D).cell 2 rfl
            have Dc3_4 := (unhide D).cell 3 rfl
            have Dc4_4 := (unhide D).cell 4 rfl
            have Dc5_4 := (unhide D).cell 5 rfl
            have Dc6_4 := (unhide D).cell 6 rfl
            have Dc7_4 := (unhide D).cell 7 rfl
            go_wp2
            go_ret
            exact ⟨rfl, unhide BB⟩
        · have g_bits : ¬ (bits = 0) := fun h => h_bits h.symm
          have BB := hide (Below.refl w.heap.size w)
          have hA : R = false := by rw [hR]; simp [h_dst, h_bits]
          clear hR
          subst hA
          obtain ⟨ws1, hA⟩ : ∃ X, X = w.alloc (.cells ([.int .i64 8, .string box, .string ⟨#[]⟩, .slice none 0 0, .int .i64 0, .int .i64 0, .int .i64 since, .string ⟨#[]⟩] : List Value).toArray 30) := ⟨_, rfl⟩
          have Ax : HasObj ws1 w.heap.size 30 [.int .i64 8, .string box, .string ⟨#[]⟩, .slice none 0 0, .int .i64 0, .int .i64 0, .int .i64 since, .string ⟨#[]⟩] := by rw [hA]; exact HasObj.new _ _ _
          have hbn : Below w.heap.size w ws1 := by rw [hA]; exact (Below.refl _ _).alloc (Nat.le_refl _) _
          have loA : w.heap.size ≤ w.heap.size := (unhide BB).size
          have EA := hA.symm
          clear hA
          have sz1 := hide (hbn.size)
          have BB_ := hide (below_y (unhide BB) hbn)
          clear BB
          have BB := BB_
          clear BB_
          clear hbn
          have A := hide Ax
          clear Ax
          obtain ⟨ws2, hD⟩ : ∃ X, X = ws1.alloc (.cells ([.int .i64 8, .string box, .string dst, .slice a 0 c, .int .i64 0, .int .i64 bits, .int .i64 since, .string text] : List Value).toArray 30) := ⟨_, rfl⟩
          have Dx : HasObj ws2 ws1.heap.size 30 [.int .i64 8, .string box, .string dst, .slice a 0 c, .int .i64 0, .int .i64 bits, .int .i64 since, .string text] := by rw [hD]; exact HasObj.new _ _ _
          have hbn : Below ws1.heap.size ws1 ws2 := by rw [hD]; exact (Below.refl _ _).alloc (Nat.le_refl _) _
          have neAD : w.heap.size ≠ ws1.heap.size := Nat.ne_of_lt (unhide A).lt
          have loD : w.heap.size ≤ ws1.heap.size := (unhide BB).size
          have ED := hD.symm
          clear hD
          have A_ := hide ((unhide A).ups hbn)
          clear A
          have A := A_
          clear A_
          have sz2 := hide (hbn.size)
          have BB_ := hide (below_y (unhide BB) hbn)
          clear BB
          have BB := BB_
          clear BB_
          clear hbn
          have D := hide Dx
          clear Dx
          have Ac0_1 := (unhide A).cell 0 rfl
          have Ac1_1 := (unhide A).cell 1 rfl
          have Ac2_1 := (unhide A).cell 2 rfl
          have Ac3_1 := (unhide A).cell 3 rfl
          have Ac4_1 := (unhide A).cell 4 rfl
          have Ac5_1 := (unhide A).cell 5 rfl
          have Ac6_1 := (unhide A).cell 6 rfl
          have Ac7_1 := (unhide A).cell 7 rfl
          have Dc0_2 := (unhide D).cell 0 rfl
          have Dc1_2 := (unhide D).cell 1 rfl
          have Dc2_2 := (unhide D).cell 2 rfl
          have Dc3_2 := (unhide D).cell 3 rfl
          have Dc4_2 := (unhide D).cell 4 rfl
          have Dc5_2 := (unhide D).cell 5 rfl
          have Dc6_2 := (unhide D).cell 6 rfl
          have Dc7_2 := (unhide D).cell 7 rfl
          go_enter Tryd.func31, Tryd.ntmps31
          go_wp2_with fail
          clear Ac0_1 Ac1_1 Ac2_1 Ac3_1 Ac4_1 Ac5_1 Ac6_1 Ac7_1 Dc0_2 Dc1_2 Dc2_2 Dc3_2 Dc4_2 Dc5_2 Dc6_2 Dc7_2 EA ED
          refine (equal_nil a c _ _ hs).mono ?_
          rintro e ws3 ⟨rfl, hb⟩
          have A_ := hide ((unhide A).ups hb)
          clear A
          have A := A_
          clear A_
          have D_ := hide ((unhide D).ups hb)
          clear D
          have D := D_
          clear D_
          have sz3 := hide (hb.size)
          have BB_ := hide (below_y (unhide BB) hb)
          clear BB
          have BB := BB_
          clear BB_
          clear hb
          rw [show decide ((0 : Nat) = 0) = true from rfl]
          have Ac0_3 := (unhide A).cell 0 rfl
          have Ac1_3 := (unhide A).cell 1 rfl
          have Ac2_3 := (unhide A).cell 2 rfl
          have Ac3_3 := (unhide A).cell 3 rfl
          have Ac4_3 := (unhide A).cell 4 rfl
          have Ac5_3 := (unhide A).cell 5 rfl
          have Ac6_3 := (unhide A).cell 6 rfl
          have Ac7_3 := (unhide A).cell 7 rfl
          have Dc0_4 := (unhide D).cell 0 rfl
          have Dc1_4 := (unhide D).cell 1 rfl
          have Dc2_4 := (unhide D).cell 2 rfl
          have Dc3_4 := (unhide D).cell 3 rfl
          have Dc4_4 := (unhide D).cell 4 rfl
          have Dc5_4 := (unhide D).cell 5 rfl
          have Dc6_4 := (unhide D).cell 6 rfl
          have Dc7_4 := (unhide D).cell 7 rfl
          go_wp2
          go_ret
          exact ⟨rfl, unhide BB⟩
      · have g_how : ¬ (how = 0) := fun h => h_how h.symm
        have BB := hide (Below.refl w.heap.size w)
        have hA : R = false := by rw [hR]; simp [h_dst, h_how]
        clear hR
        subst hA
        obtain ⟨ws1, hA⟩ : ∃ X, X = w.alloc (.cells ([.int .i64 8, .string box, .string ⟨#[]⟩, .slice none 0 0, .int .i64 0, .int .i64 0, .int .i64 since, .string ⟨#[]⟩] : List Value).toArray 30) := ⟨_, rfl⟩
        have Ax : HasObj ws1 w.heap.size 30 [.int .i64 8, .string box, .string ⟨#[]⟩, .slice none 0 0, .int .i64 0, .int .i64 0, .int .i64 since, .string ⟨#[]⟩] := by rw [hA]; exact HasObj.new _ _ _
        have hbn : Below w.heap.size w ws1 := by rw [hA]; exact (Below.refl _ _).alloc (Nat.le_refl _) _
        have loA : w.heap.size ≤ w.heap.size := (unhide BB).size
        have EA := hA.symm
        clear hA
        have sz1 := hide (hbn.size)
        have BB_ := hide (below_y (unhide BB) hbn)
        clear BB
        have BB := BB_
        clear BB_
        clear hbn
        have A := hide Ax
        clear Ax
        obtain ⟨ws2, hD⟩ : ∃ X, X = ws1.alloc (.cells ([.int .i64 8, .string box, .string dst, .slice a 0 c, .int .i64 how, .int .i64 bits, .int .i64 since, .string text] : List Value).toArray 30) := ⟨_, rfl⟩
        have Dx : HasObj ws2 ws1.heap.size 30 [.int .i64 8, .string box, .string dst, .slice a 0 c, .int .i64 how, .int .i64 bits, .int .i64 since, .string text] := by rw [hD]; exact HasObj.new _ _ _
        have hbn : Below ws1.heap.size ws1 ws2 := by rw [hD]; exact (Below.refl _ _).alloc (Nat.le_refl _) _
        have neAD : w.heap.size ≠ ws1.heap.size := Nat.ne_of_lt (unhide A).lt
        have loD : w.heap.size ≤ ws1.heap.size := (unhide BB).size
        have ED := hD.symm
        clear hD
        have A_ := hide ((unhide A).ups hbn)
        clear A
        have A := A_
        clear A_
        have sz2 := hide (hbn.size)
        have BB_ := hide (below_y (unhide BB) hbn)
        clear BB
        have BB := BB_
        clear BB_
        clear hbn
        have D := hide Dx
        clear Dx
        have Ac0_1 := (unhide A).cell 0 rfl
        have Ac1_1 := (unhide A).cell 1 rfl
        have Ac2_1 := (unhide A).cell 2 rfl
        have Ac3_1 := (unhide A).cell 3 rfl
        have Ac4_1 := (unhide A).cell 4 rfl
        have Ac5_1 := (unhide A).cell 5 rfl
        have Ac6_1 := (unhide A).cell 6 rfl
        have Ac7_1 := (unhide A).cell 7 rfl
        have Dc0_2 := (unhide D).cell 0 rfl
        have Dc1_2 := (unhide D).cell 1 rfl
        have Dc2_2 := (unhide D).cell 2 rfl
        have Dc3_2 := (unhide D).cell 3 rfl
        have Dc4_2 := (unhide D).cell 4 rfl
        have Dc5_2 := (unhide D).cell 5 rfl
        have Dc6_2 := (unhide D).cell 6 rfl
        have Dc7_2 := (unhide D).cell 7 rfl
        go_enter Tryd.func31, Tryd.ntmps31
        go_wp2_with fail
        clear Ac0_1 Ac1_1 Ac2_1 Ac3_1 Ac4_1 Ac5_1 Ac6_1 Ac7_1 Dc0_2 Dc1_2 Dc2_2 Dc3_2 Dc4_2 Dc5_2 Dc6_2 Dc7_2 EA ED
        refine (equal_nil a c _ _ hs).mono ?_
        rintro e ws3 ⟨rfl, hb⟩
        have A_ := hide ((unhide A).ups hb)
        clear A
        have A := A_
        clear A_
        have D_ := hide ((unhide D).ups hb)
        clear D
        have D := D_
        clear D_
        have sz3 := hide (hb.size)
        have BB_ := hide (below_y (unhide BB) hb)
        clear BB
        have BB := BB_
        clear BB_
        clear hb
        rw [show decide ((0 : Nat) = 0) = true from rfl]
        have Ac0_3 := (unhide A).cell 0 rfl
        have Ac1_3 := (unhide A).cell 1 rfl
        have Ac2_3 := (unhide A).cell 2 rfl
        have Ac3_3 := (unhide A).cell 3 rfl
        have Ac4_3 := (unhide A).cell 4 rfl
        have Ac5_3 := (unhide A).cell 5 rfl
        have Ac6_3 := (unhide A).cell 6 rfl
        have Ac7_3 := (unhide A).cell 7 rfl
        have Dc0_4 := (unhide D).cell 0 rfl
        have Dc1_4 := (unhide D).cell 1 rfl
        have Dc2_4 := (unhide D).cell 2 rfl
        have Dc3_4 := (unhide D).cell 3 rfl
        have Dc4_4 := (unhide D).cell 4 rfl
        have Dc5_4 := (unhide D).cell 5 rfl
        have Dc6_4 := (unhide D).cell 6 rfl
        have Dc7_4 := (unhide D).cell 7 rfl
        go_wp2
        go_ret
        exact ⟨rfl, unhide BB⟩
    · have g_set : ¬ ((n : Int) = 0) := by omega
      have BB := hide (Below.refl w.heap.size w)
      have hA : R = false := by rw [hR]; simp [h_dst, h_set]
      clear hR
      subst hA
      obtain ⟨ws1, hA⟩ : ∃ X, X = w.alloc (.cells ([.int .i64 8, .string box, .string ⟨#[]⟩, .slice none 0 0, .int .i64 0, .int .i64 0, .int .i64 since, .string ⟨#[]⟩] : List Value).toArray 30) := ⟨_, rfl⟩
      have Ax : HasObj ws1 w.heap.size 30 [.int .i64 8, .string box, .string ⟨#[]⟩, .slice none 0 0, .int .i64 0, .int .i64 0, .int .i64 since, .string ⟨#[]⟩] := by rw [hA]; exact HasObj.new _ _ _
      have hbn : Below w.heap.size w ws1 := by rw [hA]; exact (Below.refl _ _).alloc (Nat.le_refl _) _
      have loA : w.heap.size ≤ w.heap.size := (unhide BB).size
      have EA := hA.symm
      clear hA
      have sz1 := hide (hbn.size)
      have BB_ := hide (below_y (unhide BB) hbn)
      clear BB
      have BB := BB_
      clear BB_
      clear hbn
      have A := hide Ax
      clear Ax
      obtain ⟨ws2, hD⟩ : ∃ X, X = ws1.alloc (.cells ([.int .i64 8, .string box, .string dst, .slice a n c, .int .i64 how, .int .i64 bits, .int .i64 since, .string text] : List Value).toArray 30) := ⟨_, rfl⟩
      have Dx : HasObj ws2 ws1.heap.size 30 [.int .i64 8, .string box, .string dst, .slice a n c, .int .i64 how, .int .i64 bits, .int .i64 since, .string text] := by rw [hD]; exact HasObj.new _ _ _
      have hbn : Below ws1.heap.size ws1 ws2 := by rw [hD]; exact (Below.refl _ _).alloc (Nat.le_refl _) _
      have neAD : w.heap.size ≠ ws1.heap.size := Nat.ne_of_lt (unhide A).lt
      have loD : w.heap.size ≤ ws1.heap.size := (unhide BB).size
      have ED := hD.symm
      clear hD
      have A_ := hide ((unhide A).ups hbn)
      clear A
      have A := A_
      clear A_
      have sz2 := hide (hbn.size)
      have BB_ := hide (below_y (unhide BB) hbn)
      clear BB
      have BB := BB_
      clear BB_
      clear hbn
      have D := hide Dx
      clear Dx
      have Ac0_1 := (unhide A).cell 0 rfl
      have Ac1_1 := (unhide A).cell 1 rfl
      have Ac2_1 := (unhide A).cell 2 rfl
      have Ac3_1 := (unhide A).cell 3 rfl
      have Ac4_1 := (unhide A).cell 4 rfl
      have Ac5_1 := (unhide A).cell 5 rfl
      have Ac6_1 := (unhide A).cell 6 rfl
      have Ac7_1 := (unhide A).cell 7 rfl
      have Dc0_2 := (unhide D).cell 0 rfl
      have Dc1_2 := (unhide D).cell 1 rfl
      have Dc2_2 := (unhide D).cell 2 rfl
      have Dc3_2 := (unhide D).cell 3 rfl
      have Dc4_2 := (unhide D).cell 4 rfl
      have Dc5_2 := (unhide D).cell 5 rfl
      have Dc6_2 := (unhide D).cell 6 rfl
      have Dc7_2 := (unhide D).cell 7 rfl
      go_enter Tryd.func31, Tryd.ntmps31
      go_wp2_with fail
      clear Ac0_1 Ac1_1 Ac2_1 Ac3_1 Ac4_1 Ac5_1 Ac6_1 Ac7_1 Dc0_2 Dc1_2 Dc2_2 Dc3_2 Dc4_2 Dc5_2 Dc6_2 Dc7_2 EA ED
      refine (equal_nil a c _ _ hs).mono ?_
      rintro e ws3 ⟨rfl, hb⟩
      have A_ := hide ((unhide A).ups hb)
      clear A
      have A := A_
      clear A_
      have D_ := hide ((unhide D).ups hb)
      clear D
      have D := D_
      clear D_
      have sz3 := hide (hb.size)
      have BB_ := hide (below_y (unhide BB) hb)
      clear BB
      have BB := BB_
      clear BB_
      clear hb
      rw [decide_eq_false h_set]
      have Ac0_3 := (unhide A).cell 0 rfl
      have Ac1_3 := (unhide A).cell 1 rfl
      have Ac2_3 := (unhide A).cell 2 rfl
      have Ac3_3 := (unhide A).cell 3 rfl
      have Ac4_3 := (unhide A).cell 4 rfl
      have Ac5_3 := (unhide A).cell 5 rfl
      have Ac6_3 := (unhide A).cell 6 rfl
      have Ac7_3 := (unhide A).cell 7 rfl
      have Dc0_4 := (unhide D).cell 0 rfl
      have Dc1_4 := (unhide D).cell 1 rfl
      have Dc2_4 := (unhide D).cell 2 rfl
      have Dc3_4 := (unhide D).cell 3 rfl
      have Dc4_4 := (unhide D).cell 4 rfl
      have Dc5_4 := (unhide D).cell 5 rfl
      have Dc6_4 := (unhide D).cell 6 rfl
      have Dc7_4 := (unhide D).cell 7 rfl
      go_wp2
      go_ret
      exact ⟨rfl, unhide BB⟩
end Go.Proofs.YtecognggnbopaacDoor
