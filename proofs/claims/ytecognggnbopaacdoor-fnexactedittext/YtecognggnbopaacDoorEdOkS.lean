/- The specification's EditOk. Made by gen_edit.py. -/
import Derived.Test.YtecognggnbopaacDoorEdUses
import Derived.Test.YtecognggnbopaacDoorBoxNameS
import Derived.Test.YtecognggnbopaacDoorFlagA
namespace Go.Proofs.YtecognggnbopaacDoor
open Go.RowKit Go.ChangeShapes Go.WideShapes Go.ChangeAt Go.Deep
open Plain
set_option linter.unusedVariables false
set_option linter.unusedSimpArgs false

theorem setOkE (l : List Rg) (v : Value) (B : Nat) (w : World) (hs : l.length ≤ 1048576) (h : OwnR B w v l) : Calls Tryd.prog 24 #[v] w fun e w' => e = .returned (.bool (okS l)) ∧ Below w.heap.size w w' :=
  (spec_SetOk_any l v w hs h.read).mono fun e w' ⟨h, q, hq⟩ => ⟨h, by rw [hq]; exact ⟨rfl, rfl, rfl, Nat.le_refl _, fun _ _ => rfl⟩⟩
set_option maxHeartbeats 4000000 in
set_option maxRecDepth 100000 in
theorem okS1 (e : Ed) (a : Option Addr) (c B : Nat) (w : World) (hk : e.kind = 1) (hs : SmallEd 1048576 e) (hr : OwnR B w (.slice a e.set.length c) e.set) :
    Calls Tryd.prog 10 #[.agg #[.int .i64 e.kind, .string e.box, .string e.dst, .slice a e.set.length c, .int .i64 e.how, .int .i64 e.bits, .int .i64 e.since, .string e.text]] w fun x w' => x = .returned (.bool ((((nameOkL e.box.data.toList && ((((((([] == e.dst.toList) && decide (e.set.length = 0)) && decide ((0 : Int) = e.how)) && decide ((0 : Int) = e.bits)) && decide ((0 : Int) = e.since)) && ([] == e.text.toList)))) && okS e.set) && flOk e.bits))) ∧ Below w.heap.size w w' := by
  obtain ⟨Z, hZ⟩ : ∃ Z, Z = ((((nameOkL e.box.data.toList && ((((((([] == e.dst.toList) && decide (e.set.length = 0)) && decide ((0 : Int) = e.how)) && decide ((0 : Int) = e.bits)) && decide ((0 : Int) = e.since)) && ([] == e.text.toList)))) && okS e.set) && flOk e.bits)) := ⟨_, rfl⟩
  rw [← hZ, hk]
  have SM := hide hs
  have RS := hide hr
  have HZ := hide hZ
  clear hs hr hZ hk
  have BB := hide (Below.refl w.heap.size w)
  obtain ⟨wk1, hA⟩ : ∃ X, X = w.alloc (.cells ([.int .i64 1, .string e.box, .string e.dst, .slice a e.set.length c, .int .i64 e.how, .int .i64 e.bits, .int .i64 e.since, .string e.text] : List Value).toArray 30) := ⟨_, rfl⟩
  have Ax : HasObj wk1 w.heap.size 30 [.int .i64 1, .string e.box, .string e.dst, .slice a e.set.length c, .int .i64 e.how, .int .i64 e.bits, .int .i64 e.since, .string e.text] := by rw [hA]; exact HasObj.new _ _ _
  have hbn : Below w.heap.size w wk1 := by rw [hA]; exact (Below.refl _ _).alloc (Nat.le_refl _) _
  have loA : w.heap.size ≤ w.heap.size := (unhide BB).size
  have EA := hA.symm
  clear hA
  have RS_ := hide ((unhide RS).up hbn)
  clear RS
  have RS := RS_
  clear RS_
  have sz1 := hide (hbn.size)
  have BB_ := hide (below_y (unhide BB) hbn)
  clear BB
  have BB := BB_
  clear BB_
  clear hbn
  have A := hide Ax
  clear Ax
  have Ac0_1 := (unhide A).cell 0 rfl
  have Ac1_1 := (unhide A).cell 1 rfl
  have Ac2_1 := (unhide A).cell 2 rfl
  have Ac3_1 := (unhide A).cell 3 rfl
  have Ac4_1 := (unhide A).cell 4 rfl
  have Ac5_1 := (unhide A).cell 5 rfl
  have Ac6_1 := (unhide A).cell 6 rfl
  have Ac7_1 := (unhide A).cell 7 rfl
  go_enter Tryd.func10, Tryd.ntmps10
  go_wp2_with fail
  clear Ac0_1 Ac1_1 Ac2_1 Ac3_1 Ac4_1 Ac5_1 Ac6_1 Ac7_1 EA
  refine (in_any 1 1 8 _).mono ?_
  rintro x wk2 ⟨rfl, hw⟩
  subst wk2
  rw [show inI 1 1 8 = true from rfl]
  have Ac0_2 := (unhide A).cell 0 rfl
  have Ac1_2 := (unhide A).cell 1 rfl
  have Ac2_2 := (unhide A).cell 2 rfl
  have Ac3_2 := (unhide A).cell 3 rfl
  have Ac4_2 := (unhide A).cell 4 rfl
  have Ac5_2 := (unhide A).cell 5 rfl
  have Ac6_2 := (unhide A).cell 6 rfl
  have Ac7_2 := (unhide A).cell 7 rfl
  go_wp2_with fail
  clear Ac0_2 Ac1_2 Ac2_2 Ac3_2 Ac4_2 Ac5_2 Ac6_2 Ac7_2
  refine (spec_BoxName_any e.box _ (unhide SM).box).mono ?_
  rintro x wk3 ⟨rfl, hw⟩
  obtain ⟨Y0, hY0⟩ : ∃ Y, Y = (nameOkL e.box.data.toList) := ⟨_, rfl⟩
  rw [← hY0]
  have HY0 := hide hY0
  clear hY0
  subst wk3
  cases h0_ : Y0 with
  | false =>
    have hA : Z = false := by rw [unhide HZ]; rw [← unhide HY0]; simp [h0_]
    clear HZ
    subst hA
    have Ac0_3 := (unhide A).cell 0 rfl
    have Ac1_3 := (unhide A).cell 1 rfl
    have Ac2_3 := (unhide A).cell 2 rfl
    have Ac3_3 := (unhide A).cell 3 rfl
    have Ac4_3 := (unhide A).cell 4 rfl
    have Ac5_3 := (unhide A).cell 5 rfl
    have Ac6_3 := (unhide A).cell 6 rfl
    have Ac7_3 := (unhide A).cell 7 rfl
    skip
    go_wp2
    go_ret
    exact ⟨rfl, unhide BB⟩
  | true =>
    have Ac0_3 := (unhide A).cell 0 rfl
    have Ac1_3 := (unhide A).cell 1 rfl
    have Ac2_3 := (unhide A).cell 2 rfl
    have Ac3_3 := (unhide A).cell 3 rfl
    have Ac4_3 := (unhide A).cell 4 rfl
    have Ac5_3 := (unhide A).cell 5 rfl
    have Ac6_3 := (unhide A).cell 6 rfl
    have Ac7_3 := (unhide A).cell 7 rfl
    go_wp2_with fail
    clear Ac0_3 Ac1_3 Ac2_3 Ac3_3 Ac4_3 Ac5_3 Ac6_3 Ac7_3
    refine (uses1 e.box e.dst e.text e.set.length e.how e.bits e.since a c _ (unhide SM).set).mono ?_
    rintro x wk4 ⟨rfl, hb⟩
    obtain ⟨Y1, hY1⟩ : ∃ Y, Y = (((((((([] == e.dst.toList) && decide (e.set.length = 0)) && decide ((0 : Int) = e.how)) && decide ((0 : Int) = e.bits)) && decide ((0 : Int) = e.since)) && ([] == e.text.toList)))) := ⟨_, rfl⟩
    rw [← hY1]
    have HY1 := hide hY1
    clear hY1
    have A_ := hide ((unhide A).ups hb)
    clear A
    have A := A_
    clear A_
    have RS_ := hide ((unhide RS).up hb)
    clear RS
    have RS := RS_
    clear RS_
    have sz2 := hide (hb.size)
    have BB_ := hide (below_y (unhide BB) hb)
    clear BB
    have BB := BB_
    clear BB_
    clear hb
    cases h1_ : Y1 with
    | false =>
      have hA : Z = false := by rw [unhide HZ]; rw [← unhide HY0]; rw [← unhide HY1]; simp [h0_, h1_]
      clear HZ
      subst hA
      have Ac0_4 := (unhide A).cell 0 rfl
      have Ac1_4 := (unhide A).cell 1 rfl
      have Ac2_4 := (unhide A).cell 2 rfl
      have Ac3_4 := (unhide A).cell 3 rfl
      have Ac4_4 := (unhide A).cell 4 rfl
      have Ac5_4 := (unhide A).cell 5 rfl
      have Ac6_4 := (unhide A).cell 6 rfl
      have Ac7_4 := (unhide A).cell 7 rfl
      skip
      go_wp2
      go_ret
      exact ⟨rfl, unhide BB⟩
    | true =>
      have Ac0_4 := (unhide A).cell 0 rfl
      have Ac1_4 := (unhide A).cell 1 rfl
      have Ac2_4 := (unhide A).cell 2 rfl
      have Ac3_4 := (unhide A).cell 3 rfl
      have Ac4_4 := (unhide A).cell 4 rfl
      have Ac5_4 := (unhide A).cell 5 rfl
      have Ac6_4 := (unhide A).cell 6 rfl
      have Ac7_4 := (unhide A).cell 7 rfl
      go_wp2_with fail
      clear Ac0_4 Ac1_4 Ac2_4 Ac3_4 Ac4_4 Ac5_4 Ac6_4 Ac7_4
      refine (setOkE e.set _ _ _ (unhide SM).set (unhide RS)).mono ?_
      rintro x wk5 ⟨rfl, hb⟩
      obtain ⟨Y2, hY2⟩ : ∃ Y, Y = (okS e.set) := ⟨_, rfl⟩
      rw [← hY2]
      have HY2 := hide hY2
      clear hY2
      have A_ := hide ((unhide A).ups hb)
      clear A
      have A := A_
      clear A_
      have RS_ := hide ((unhide RS).up hb)
      clear RS
      have RS := RS_
      clear RS_
      have sz3 := hide (hb.size)
      have BB_ := hide (below_y (unhide BB) hb)
      clear BB
      have BB := BB_
      clear BB_
      clear hb
      cases h2_ : Y2 with
      | false =>
        have hA : Z = false := by rw [unhide HZ]; rw [← unhide HY0]; rw [← unhide HY1]; rw [← unhide HY2]; simp [h0_, h1_, h2_]
        clear HZ
        subst hA
        have Ac0_5 := (unhide A).cell 0 rfl
        have Ac1_5 := (unhide A).cell 1 rfl
        have Ac2_5 := (unhide A).cell 2 rfl
        have Ac3_5 := (unhide A).cell 3 rfl
        have Ac4_5 := (unhide A).cell 4 rfl
        have Ac5_5 := (unhide A).cell 5 rfl
        have Ac6_5 := (unhide A).cell 6 rfl
        have Ac7_5 := (unhide A).cell 7 rfl
        skip
        go_wp2
        go_ret
        exact ⟨rfl, unhide BB⟩
      | true =>
        have Ac0_5 := (unhide A).cell 0 rfl
        have Ac1_5 := (unhide A).cell 1 rfl
        have Ac2_5 := (unhide A).cell 2 rfl
        have Ac3_5 := (unhide A).cell 3 rfl
        have Ac4_5 := (unhide A).cell 4 rfl
        have Ac5_5 := (unhide A).cell 5 rfl
        have Ac6_5 := (unhide A).cell 6 rfl
        have Ac7_5 := (unhide A).cell 7 rfl
        go_wp2_with fail
        clear Ac0_5 Ac1_5 Ac2_5 Ac3_5 Ac4_5 Ac5_5 Ac6_5 Ac7_5
        refine (spec_FlagsOk_any e.bits _).mono ?_
        rintro x wk6 ⟨rfl, hw⟩
        obtain ⟨Y3, hY3⟩ : ∃ Y, Y = (flOk e.bits) := ⟨_, rfl⟩
        rw [← hY3]
        have HY3 := hide hY3
        clear hY3
        subst wk6
        cases h3_ : Y3 with
        | false =>
          have hA : Z = false := by rw [unhide HZ]; rw [← unhide HY0]; rw [← unhide HY1]; rw [← unhide HY2]; rw [← unhide HY3]; simp [h0_, h1_, h2_, h3_]
          clear HZ
          subst hA
          have Ac0_6 := (unhide A).cell 0 rfl
          have Ac1_6 := (unhide A).cell 1 rfl
          have Ac2_6 := (unhide A).cell 2 rfl
          have Ac3_6 := (unhide A).cell 3 rfl
          have Ac4_6 := (unhide A).cell 4 rfl
          have Ac5_6 := (unhide A).cell 5 rfl
          have Ac6_6 := (unhide A).cell 6 rfl
          have Ac7_6 := (unhide A).cell 7 rfl
          skip
          go_wp2
          go_ret
          exact ⟨rfl, unhide BB⟩
        | true =>
          have hA : Z = true := by rw [unhide HZ]; rw [← unhide HY0]; rw [← unhide HY1]; rw [← unhide HY2]; rw [← unhide HY3]; simp [h0_, h1_, h2_, h3_]
          clear HZ
          subst hA
          have Ac0_6 := (unhide A).cell 0 rfl
          have Ac1_6 := (unhide A).cell 1 rfl
          have Ac2_6 := (unhide A).cell 2 rfl
          have Ac3_6 := (unhide A).cell 3 rfl
          have Ac4_6 := (unhide A).cell 4 rfl
          have Ac5_6 := (unhide A).cell 5 rfl
          have Ac6_6 := (unhide A).cell 6 rfl
          have Ac7_6 := (unhide A).cell 7 rfl
          go_wp2
          go_ret
          exact ⟨rfl, unhide BB⟩
set_option maxHeartbeats 4000000 in
set_option maxRecDepth 100000 in
theorem okS2 (e : Ed) (a : Option Addr) (c B : Nat) (w : World) (hk : e.kind = 2) (hs : SmallEd 1048576 e) (hr : OwnR B w (.slice a e.set.length c) e.set) :
    Calls Tryd.prog 10 #[.agg #[.int .i64 e.kind, .string e.box, .string e.dst, .slice a e.set.length c, .int .i64 e.how, .int .i64 e.bits, .int .i64 e.since, .string e.text]] w fun x w' => x = .returned (.bool ((((nameOkL e.box.data.toList && ((((((([] == e.dst.toList) && decide (e.set.length = 0)) && decide ((0 : Int) = e.how)) && decide ((0 : Int) = e.bits)) && decide ((0 : Int) = e.since)) && ([] == e.text.toList)))) && okS e.set) && flOk e.bits))) ∧ Below w.heap.size w w' := by
  obtain ⟨Z, hZ⟩ : ∃ Z, Z = ((((nameOkL e.box.data.toList && ((((((([] == e.dst.toList) && decide (e.set.length = 0)) && decide ((0 : Int) = e.how)) && decide ((0 : Int) = e.bits)) && decide ((0 : Int) = e.since)) && ([] == e.text.toList)))) && okS e.set) && flOk e.bits)) := ⟨_, rfl⟩
  rw [← hZ, hk]
  have SM := hide hs
  have RS := hide hr
  have HZ := hide hZ
  clear hs hr hZ hk
  have BB := hide (Below.refl w.heap.size w)
  obtain ⟨wk1, hA⟩ : ∃ X, X = w.alloc (.cells ([.int .i64 2, .string e.box, .string e.dst, .slice a e.set.length c, .int .i64 e.how, .int .i64 e.bits, .int .i64 e.since, .string e.text] : List Value).toArray 30) := ⟨_, rfl⟩
  have Ax : HasObj wk1 w.heap.size 30 [.int .i64 2, .string e.box, .string e.dst, .slice a e.set.length c, .int .i64 e.how, .int .i64 e.bits, .int .i64 e.since, .string e.text] := by rw [hA]; exact HasObj.new _ _ _
  have hbn : Below w.heap.size w wk1 := by rw [hA]; exact (Below.refl _ _).alloc (Nat.le_refl _) _
  have loA : w.heap.size ≤ w.heap.size := (unhide BB).size
  have EA := hA.symm
  clear hA
  have RS_ := hide ((unhide RS).up hbn)
  clear RS
  have RS := RS_
  clear RS_
  have sz1 := hide (hbn.size)
  have BB_ := hide (below_y (unhide BB) hbn)
  clear BB
  have BB := BB_
  clear BB_
  clear hbn
  have A := hide Ax
  clear Ax
  have Ac0_1 := (unhide A).cell 0 rfl
  have Ac1_1 := (unhide A).cell 1 rfl
  have Ac2_1 := (unhide A).cell 2 rfl
  have Ac3_1 := (unhide A).cell 3 rfl
  have Ac4_1 := (unhide A).cell 4 rfl
  have Ac5_1 := (unhide A).cell 5 rfl
  have Ac6_1 := (unhide A).cell 6 rfl
  have Ac7_1 := (unhide A).cell 7 rfl
  go_enter Tryd.func10, Tryd.ntmps10
  go_wp2_with fail
  clear Ac0_1 Ac1_1 Ac2_1 Ac3_1 Ac4_1 Ac5_1 Ac6_1 Ac7_1 EA
  refine (in_any 2 1 8 _).mono ?_
  rintro x wk2 ⟨rfl, hw⟩
  subst wk2
  rw [show inI 2 1 8 = true from rfl]
  have Ac0_2 := (unhide A).cell 0 rfl
  have Ac1_2 := (unhide A).cell 1 rfl
  have Ac2_2 := (unhide A).cell 2 rfl
  have Ac3_2 := (unhide A).cell 3 rfl
  have Ac4_2 := (unhide A).cell 4 rfl
  have Ac5_2 := (unhide A).cell 5 rfl
  have Ac6_2 := (unhide A).cell 6 rfl
  have Ac7_2 := (unhide A).cell 7 rfl
  go_wp2_with fail
  clear Ac0_2 Ac1_2 Ac2_2 Ac3_2 Ac4_2 Ac5_2 Ac6_2 Ac7_2
  refine (spec_BoxName_any e.box _ (unhide SM).box).mono ?_
  rintro x wk3 ⟨rfl, hw⟩
  obtain ⟨Y0, hY0⟩ : ∃ Y, Y = (nameOkL e.box.data.toList) := ⟨_, rfl⟩
  rw [← hY0]
  have HY0 := hide hY0
  clear hY0
  subst wk3
  cases h0_ : Y0 with
  | false =>
    have hA : Z = false := by rw [unhide HZ]; rw [← unhide HY0]; simp [h0_]
    clear HZ
    subst hA
    have Ac0_3 := (unhide A).cell 0 rfl
    have Ac1_3 := (unhide A).cell 1 rfl
    have Ac2_3 := (unhide A).cell 2 rfl
    have Ac3_3 := (unhide A).cell 3 rfl
    have Ac4_3 := (unhide A).cell 4 rfl
    have Ac5_3 := (unhide A).cell 5 rfl
    have Ac6_3 := (unhide A).cell 6 rfl
    have Ac7_3 := (unhide A).cell 7 rfl
    skip
    go_wp2
    go_ret
    exact ⟨rfl, unhide BB⟩
  | true =>
    have Ac0_3 := (unhide A).cell 0 rfl
    have Ac1_3 := (unhide A).cell 1 rfl
    have Ac2_3 := (unhide A).cell 2 rfl
    have Ac3_3 := (unhide A).cell 3 rfl
    have Ac4_3 := (unhide A).cell 4 rfl
    have Ac5_3 := (unhide A).cell 5 rfl
    have Ac6_3 := (unhide A).cell 6 rfl
    have Ac7_3 := (unhide A).cell 7 rfl
    go_wp2_with fail
    clear Ac0_3 Ac1_3 Ac2_3 Ac3_3 Ac4_3 Ac5_3 Ac6_3 Ac7_3
    refine (uses2 e.box e.dst e.text e.set.length e.how e.bits e.since a c _ (unhide SM).set).mono ?_
    rintro x wk4 ⟨rfl, hb⟩
    obtain ⟨Y1, hY1⟩ : ∃ Y, Y = (((((((([] == e.dst.toList) && decide (e.set.length = 0)) && decide ((0 : Int) = e.how)) && decide ((0 : Int) = e.bits)) && decide ((0 : Int) = e.since)) && ([] == e.text.toList)))) := ⟨_, rfl⟩
    rw [← hY1]
    have HY1 := hide hY1
    clear hY1
    have A_ := hide ((unhide A).ups hb)
    clear A
    have A := A_
    clear A_
    have RS_ := hide ((unhide RS).up hb)
    clear RS
    have RS := RS_
    clear RS_
    have sz2 := hide (hb.size)
    have BB_ := hide (below_y (unhide BB) hb)
    clear BB
    have BB := BB_
    clear BB_
    clear hb
    cases h1_ : Y1 with
    | false =>
      have hA : Z = false := by rw [unhide HZ]; rw [← unhide HY0]; rw [← unhide HY1]; simp [h0_, h1_]
      clear HZ
      subst hA
      have Ac0_4 := (unhide A).cell 0 rfl
      have Ac1_4 := (unhide A).cell 1 rfl
      have Ac2_4 := (unhide A).cell 2 rfl
      have Ac3_4 := (unhide A).cell 3 rfl
      have Ac4_4 := (unhide A).cell 4 rfl
      have Ac5_4 := (unhide A).cell 5 rfl
      have Ac6_4 := (unhide A).cell 6 rfl
      have Ac7_4 := (unhide A).cell 7 rfl
      skip
      go_wp2
      go_ret
      exact ⟨rfl, unhide BB⟩
    | true =>
      have Ac0_4 := (unhide A).cell 0 rfl
      have Ac1_4 := (unhide A).cell 1 rfl
      have Ac2_4 := (unhide A).cell 2 rfl
      have Ac3_4 := (unhide A).cell 3 rfl
      have Ac4_4 := (unhide A).cell 4 rfl
      have Ac5_4 := (unhide A).cell 5 rfl
      have Ac6_4 := (unhide A).cell 6 rfl
      have Ac7_4 := (unhide A).cell 7 rfl
      go_wp2_with fail
      clear Ac0_4 Ac1_4 Ac2_4 Ac3_4 Ac4_4 Ac5_4 Ac6_4 Ac7_4
      refine (setOkE e.set _ _ _ (unhide SM).set (unhide RS)).mono ?_
      rintro x wk5 ⟨rfl, hb⟩
      obtain ⟨Y2, hY2⟩ : ∃ Y, Y = (okS e.set) := ⟨_, rfl⟩
      rw [← hY2]
      have HY2 := hide hY2
      clear hY2
      have A_ := hide ((unhide A).ups hb)
      clear A
      have A := A_
      clear A_
      have RS_ := hide ((unhide RS).up hb)
      clear RS
      have RS := RS_
      clear RS_
      have sz3 := hide (hb.size)
      have BB_ := hide (below_y (unhide BB) hb)
      clear BB
      have BB := BB_
      clear BB_
      clear hb
      cases h2_ : Y2 with
      | false =>
        have hA : Z = false := by rw [unhide HZ]; rw [← unhide HY0]; rw [← unhide HY1]; rw [← unhide HY2]; simp [h0_, h1_, h2_]
        clear HZ
        subst hA
        have Ac0_5 := (unhide A).cell 0 rfl
        have Ac1_5 := (unhide A).cell 1 rfl
        have Ac2_5 := (unhide A).cell 2 rfl
        have Ac3_5 := (unhide A).cell 3 rfl
        have Ac4_5 := (unhide A).cell 4 rfl
        have Ac5_5 := (unhide A).cell 5 rfl
        have Ac6_5 := (unhide A).cell 6 rfl
        have Ac7_5 := (unhide A).cell 7 rfl
        skip
        go_wp2
        go_ret
        exact ⟨rfl, unhide BB⟩
      | true =>
        have Ac0_5 := (unhide A).cell 0 rfl
        have Ac1_5 := (unhide A).cell 1 rfl
        have Ac2_5 := (unhide A).cell 2 rfl
        have Ac3_5 := (unhide A).cell 3 rfl
        have Ac4_5 := (unhide A).cell 4 rfl
        have Ac5_5 := (unhide A).cell 5 rfl
        have Ac6_5 := (unhide A).cell 6 rfl
        have Ac7_5 := (unhide A).cell 7 rfl
        go_wp2_with fail
        clear Ac0_5 Ac1_5 Ac2_5 Ac3_5 Ac4_5 Ac5_5 Ac6_5 Ac7_5
        refine (spec_FlagsOk_any e.bits _).mono ?_
        rintro x wk6 ⟨rfl, hw⟩
        obtain ⟨Y3, hY3⟩ : ∃ Y, Y = (flOk e.bits) := ⟨_, rfl⟩
        rw [← hY3]
        have HY3 := hide hY3
        clear hY3
        subst wk6
        cases h3_ : Y3 with
        | false =>
          have hA : Z = false := by rw [unhide HZ]; rw [← unhide HY0]; rw [← unhide HY1]; rw [← unhide HY2]; rw [← unhide HY3]; simp [h0_, h1_, h2_, h3_]
          clear HZ
          subst hA
          have Ac0_6 := (unhide A).cell 0 rfl
          have Ac1_6 := (unhide A).cell 1 rfl
          have Ac2_6 := (unhide A).cell 2 rfl
          have Ac3_6 := (unhide A).cell 3 rfl
          have Ac4_6 := (unhide A).cell 4 rfl
          have Ac5_6 := (unhide A).cell 5 rfl
          have Ac6_6 := (unhide A).cell 6 rfl
          have Ac7_6 := (unhide A).cell 7 rfl
          skip
          go_wp2
          go_ret
          exact ⟨rfl, unhide BB⟩
        | true =>
          have hA : Z = true := by rw [unhide HZ]; rw [← unhide HY0]; rw [← unhide HY1]; rw [← unhide HY2]; rw [← unhide HY3]; simp [h0_, h1_, h2_, h3_]
          clear HZ
          subst hA
          have Ac0_6 := (unhide A).cell 0 rfl
          have Ac1_6 := (unhide A).cell 1 rfl
          have Ac2_6 := (unhide A).cell 2 rfl
          have Ac3_6 := (unhide A).cell 3 rfl
          have Ac4_6 := (unhide A).cell 4 rfl
          have Ac5_6 := (unhide A).cell 5 rfl
          have Ac6_6 := (unhide A).cell 6 rfl
          have Ac7_6 := (unhide A).cell 7 rfl
          go_wp2
          go_ret
          exact ⟨rfl, unhide BB⟩
set_option maxHeartbeats 4000000 in
set_option maxRecDepth 100000 in
theorem okS3 (e : Ed) (a : Option Addr) (c B : Nat) (w : World) (hk : e.kind = 3) (hs : SmallEd 1048576 e) (hr : OwnR B w (.slice a e.set.length c) e.set) :
    Calls Tryd.prog 10 #[.agg #[.int .i64 e.kind, .string e.box, .string e.dst, .slice a e.set.length c, .int .i64 e.how, .int .i64 e.bits, .int .i64 e.since, .string e.text]] w fun x w' => x = .returned (.bool (((((nameOkL e.box.data.toList && ((((([] == e.dst.toList) && decide (e.set.length = 0)) && decide ((0 : Int) = e.how)) && decide ((0 : Int) = e.since)))) && okS e.set) && flOk e.bits) && mailOkL e.text.data.toList))) ∧ Below w.heap.size w w' := by
  obtain ⟨Z, hZ⟩ : ∃ Z, Z = (((((nameOkL e.box.data.toList && ((((([] == e.dst.toList) && decide (e.set.length = 0)) && decide ((0 : Int) = e.how)) && decide ((0 : Int) = e.since)))) && okS e.set) && flOk e.bits) && mailOkL e.text.data.toList)) := ⟨_, rfl⟩
  rw [← hZ, hk]
  have SM := hide hs
  have RS := hide hr
  have HZ := hide hZ
  clear hs hr hZ hk
  have BB := hide (Below.refl w.heap.size w)
  obtain ⟨wk1, hA⟩ : ∃ X, X = w.alloc (.cells ([.int .i64 3, .string e.box, .string e.dst, .slice a e.set.length c, .int .i64 e.how, .int .i64 e.bits, .int .i64 e.since, .string e.text] : List Value).toArray 30) := ⟨_, rfl⟩
  have Ax : HasObj wk1 w.heap.size 30 [.int .i64 3, .string e.box, .string e.dst, .slice a e.set.length c, .int .i64 e.how, .int .i64 e.bits, .int .i64 e.since, .string e.text] := by rw [hA]; exact HasObj.new _ _ _
  have hbn : Below w.heap.size w wk1 := by rw [hA]; exact (Below.refl _ _).alloc (Nat.le_refl _) _
  have loA : w.heap.size ≤ w.heap.size := (unhide BB).size
  have EA := hA.symm
  clear hA
  have RS_ := hide ((unhide RS).up hbn)
  clear RS
  have RS := RS_
  clear RS_
  have sz1 := hide (hbn.size)
  have BB_ := hide (below_y (unhide BB) hbn)
  clear BB
  have BB := BB_
  clear BB_
  clear hbn
  have A := hide Ax
  clear Ax
  have Ac0_1 := (unhide A).cell 0 rfl
  have Ac1_1 := (unhide A).cell 1 rfl
  have Ac2_1 := (unhide A).cell 2 rfl
  have Ac3_1 := (unhide A).cell 3 rfl
  have Ac4_1 := (unhide A).cell 4 rfl
  have Ac5_1 := (unhide A).cell 5 rfl
  have Ac6_1 := (unhide A).cell 6 rfl
  have Ac7_1 := (unhide A).cell 7 rfl
  go_enter Tryd.func10, Tryd.ntmps10
  go_wp2_with fail
  clear Ac0_1 Ac1_1 Ac2_1 Ac3_1 Ac4_1 Ac5_1 Ac6_1 Ac7_1 EA
  refine (in_any 3 1 8 _).mono ?_
  rintro x wk2 ⟨rfl, hw⟩
  subst wk2
  rw [show inI 3 1 8 = true from rfl]
  have Ac0_2 := (unhide A).cell 0 rfl
  have Ac1_2 := (unhide A).cell 1 rfl
  have Ac2_2 := (unhide A).cell 2 rfl
  have Ac3_2 := (unhide A).cell 3 rfl
  have Ac4_2 := (unhide A).cell 4 rfl
  have Ac5_2 := (unhide A).cell 5 rfl
  have Ac6_2 := (unhide A).cell 6 rfl
  have Ac7_2 := (unhide A).cell 7 rfl
  go_wp2_with fail
  clear Ac0_2 Ac1_2 Ac2_2 Ac3_2 Ac4_2 Ac5_2 Ac6_2 Ac7_2
  refine (spec_BoxName_any e.box _ (unhide SM).box).mono ?_
  rintro x wk3 ⟨rfl, hw⟩
  obtain ⟨Y0, hY0⟩ : ∃ Y, Y = (nameOkL e.box.data.toList) := ⟨_, rfl⟩
  rw [← hY0]
  have HY0 := hide hY0
  clear hY0
  subst wk3
  cases h0_ : Y0 with
  | false =>
    have hA : Z = false := by rw [unhide HZ]; rw [← unhide HY0]; simp [h0_]
    clear HZ
    subst hA
    have Ac0_3 := (unhide A).cell 0 rfl
    have Ac1_3 := (unhide A).cell 1 rfl
    have Ac2_3 := (unhide A).cell 2 rfl
    have Ac3_3 := (unhide A).cell 3 rfl
    have Ac4_3 := (unhide A).cell 4 rfl
    have Ac5_3 := (unhide A).cell 5 rfl
    have Ac6_3 := (unhide A).cell 6 rfl
    have Ac7_3 := (unhide A).cell 7 rfl
    skip
    go_wp2
    go_ret
    exact ⟨rfl, unhide BB⟩
  | true =>
    have Ac0_3 := (unhide A).cell 0 rfl
    have Ac1_3 := (unhide A).cell 1 rfl
    have Ac2_3 := (unhide A).cell 2 rfl
    have Ac3_3 := (unhide A).cell 3 rfl
    have Ac4_3 := (unhide A).cell 4 rfl
    have Ac5_3 := (unhide A).cell 5 rfl
    have Ac6_3 := (unhide A).cell 6 rfl
    have Ac7_3 := (unhide A).cell 7 rfl
    go_wp2_with fail
    clear Ac0_3 Ac1_3 Ac2_3 Ac3_3 Ac4_3 Ac5_3 Ac6_3 Ac7_3
    refine (uses3 e.box e.dst e.text e.set.length e.how e.bits e.since a c _ (unhide SM).set).mono ?_
    rintro x wk4 ⟨rfl, hb⟩
    obtain ⟨Y1, hY1⟩ : ∃ Y, Y = (((((([] == e.dst.toList) && decide (e.set.length = 0)) && decide ((0 : Int) = e.how)) && decide ((0 : Int) = e.since)))) := ⟨_, rfl⟩
    rw [← hY1]
    have HY1 := hide hY1
    clear hY1
    have A_ := hide ((unhide A).ups hb)
    clear A
    have A := A_
    clear A_
    have RS_ := hide ((unhide RS).up hb)
    clear RS
    have RS := RS_
    clear RS_
    have sz2 := hide (hb.size)
    have BB_ := hide (below_y (unhide BB) hb)
    clear BB
    have BB := BB_
    clear BB_
    clear hb
    cases h1_ : Y1 with
    | false =>
      have hA : Z = false := by rw [unhide HZ]; rw [← unhide HY0]; rw [← unhide HY1]; simp [h0_, h1_]
      clear HZ
      subst hA
      have Ac0_4 := (unhide A).cell 0 rfl
      have Ac1_4 := (unhide A).cell 1 rfl
      have Ac2_4 := (unhide A).cell 2 rfl
      have Ac3_4 := (unhide A).cell 3 rfl
      have Ac4_4 := (unhide A).cell 4 rfl
      have Ac5_4 := (unhide A).cell 5 rfl
      have Ac6_4 := (unhide A).cell 6 rfl
      have Ac7_4 := (unhide A).cell 7 rfl
      skip
      go_wp2
      go_ret
      exact ⟨rfl, unhide BB⟩
    | true =>
      have Ac0_4 := (unhide A).cell 0 rfl
      have Ac1_4 := (unhide A).cell 1 rfl
      have Ac2_4 := (unhide A).cell 2 rfl
      have Ac3_4 := (unhide A).cell 3 rfl
      have Ac4_4 := (unhide A).cell 4 rfl
      have Ac5_4 := (unhide A).cell 5 rfl
      have Ac6_4 := (unhide A).cell 6 rfl
      have Ac7_4 := (unhide A).cell 7 rfl
      go_wp2_with fail
      clear Ac0_4 Ac1_4 Ac2_4 Ac3_4 Ac4_4 Ac5_4 Ac6_4 Ac7_4
      refine (setOkE e.set _ _ _ (unhide SM).set (unhide RS)).mono ?_
      rintro x wk5 ⟨rfl, hb⟩
      obtain ⟨Y2, hY2⟩ : ∃ Y, Y = (okS e.set) := ⟨_, rfl⟩
      rw [← hY2]
      have HY2 := hide hY2
      clear hY2
      have A_ := hide ((unhide A).ups hb)
      clear A
      have A := A_
      clear A_
      have RS_ := hide ((unhide RS).up hb)
      clear RS
      have RS := RS_
      clear RS_
      have sz3 := hide (hb.size)
      have BB_ := hide (below_y (unhide BB) hb)
      clear BB
      have BB := BB_
      clear BB_
      clear hb
      cases h2_ : Y2 with
      | false =>
        have hA : Z = false := by rw [unhide HZ]; rw [← unhide HY0]; rw [← unhide HY1]; rw [← unhide HY2]; simp [h0_, h1_, h2_]
        clear HZ
        subst hA
        have Ac0_5 := (unhide A).cell 0 rfl
        have Ac1_5 := (unhide A).cell 1 rfl
        have Ac2_5 := (unhide A).cell 2 rfl
        have Ac3_5 := (unhide A).cell 3 rfl
        have Ac4_5 := (unhide A).cell 4 rfl
        have Ac5_5 := (unhide A).cell 5 rfl
        have Ac6_5 := (unhide A).cell 6 rfl
        have Ac7_5 := (unhide A).cell 7 rfl
        skip
        go_wp2
        go_ret
        exact ⟨rfl, unhide BB⟩
      | true =>
        have Ac0_5 := (unhide A).cell 0 rfl
        have Ac1_5 := (unhide A).cell 1 rfl
        have Ac2_5 := (unhide A).cell 2 rfl
        have Ac3_5 := (unhide A).cell 3 rfl
        have Ac4_5 := (unhide A).cell 4 rfl
        have Ac5_5 := (unhide A).cell 5 rfl
        have Ac6_5 := (unhide A).cell 6 rfl
        have Ac7_5 := (unhide A).cell 7 rfl
        go_wp2_with fail
        clear Ac0_5 Ac1_5 Ac2_5 Ac3_5 Ac4_5 Ac5_5 Ac6_5 Ac7_5
        refine (spec_FlagsOk_any e.bits _).mono ?_
        rintro x wk6 ⟨rfl, hw⟩
        obtain ⟨Y3, hY3⟩ : ∃ Y, Y = (flOk e.bits) := ⟨_, rfl⟩
        rw [← hY3]
        have HY3 := hide hY3
        clear hY3
        subst wk6
        cases h3_ : Y3 with
        | false =>
          have hA : Z = false := by rw [unhide HZ]; rw [← unhide HY0]; rw [← unhide HY1]; rw [← unhide HY2]; rw [← unhide HY3]; simp [h0_, h1_, h2_, h3_]
          clear HZ
          subst hA
          have Ac0_6 := (unhide A).cell 0 rfl
          have Ac1_6 := (unhide A).cell 1 rfl
          have Ac2_6 := (unhide A).cell 2 rfl
          have Ac3_6 := (unhide A).cell 3 rfl
          have Ac4_6 := (unhide A).cell 4 rfl
          have Ac5_6 := (unhide A).cell 5 rfl
          have Ac6_6 := (unhide A).cell 6 rfl
          have Ac7_6 := (unhide A).cell 7 rfl
          skip
          go_wp2
          go_ret
          exact ⟨rfl, unhide BB⟩
        | true =>
          have Ac0_6 := (unhide A).cell 0 rfl
          have Ac1_6 := (unhide A).cell 1 rfl
          have Ac2_6 := (unhide A).cell 2 rfl
          have Ac3_6 := (unhide A).cell 3 rfl
          have Ac4_6 := (unhide A).cell 4 rfl
          have Ac5_6 := (unhide A).cell 5 rfl
          have Ac6_6 := (unhide A).cell 6 rfl
          have Ac7_6 := (unhide A).cell 7 rfl
          go_wp2_with fail
          clear Ac0_6 Ac1_6 Ac2_6 Ac3_6 Ac4_6 Ac5_6 Ac6_6 Ac7_6
          refine (spec_MailOk_any e.text _ (unhide SM).text).mono ?_
          rintro x wk7 ⟨rfl, hw⟩
          obtain ⟨Y4, hY4⟩ : ∃ Y, Y = (mailOkL e.text.data.toList) := ⟨_, rfl⟩
          rw [← hY4]
          have HY4 := hide hY4
          clear hY4
          subst wk7
          have hA : Z = Y4 := by rw [unhide HZ]; rw [← unhide HY0]; rw [← unhide HY1]; rw [← unhide HY2]; rw [← unhide HY3]; rw [← unhide HY4]; simp [h0_, h1_, h2_, h3_]
          clear HZ
          subst hA
          have Ac0_7 := (unhide A).cell 0 rfl
          have Ac1_7 := (unhide A).cell 1 rfl
          have Ac2_7 := (unhide A).cell 2 rfl
          have Ac3_7 := (unhide A).cell 3 rfl
          have Ac4_7 := (unhide A).cell 4 rfl
          have Ac5_7 := (unhide A).cell 5 rfl
          have Ac6_7 := (unhide A).cell 6 rfl
          have Ac7_7 := (unhide A).cell 7 rfl
          go_wp2
          go_ret
          exact ⟨rfl, unhide BB⟩
set_option maxHeartbeats 4000000 in
set_option maxRecDepth 100000 in
theorem okS4 (e : Ed) (a : Option Addr) (c B : Nat) (w : World) (hk : e.kind = 4) (hs : SmallEd 1048576 e) (hr : OwnR B w (.slice a e.set.length c) e.set) :
    Calls Tryd.prog 10 #[.agg #[.int .i64 e.kind, .string e.box, .string e.dst, .slice a e.set.length c, .int .i64 e.how, .int .i64 e.bits, .int .i64 e.since, .string e.text]] w fun x w' => x = .returned (.bool ((((((nameOkL e.box.data.toList && ((([] == e.dst.toList) && ([] == e.text.toList)))) && okS e.set) && flOk e.bits) && inI e.how 1 3) && inI e.since (-1) 100000))) ∧ Below w.heap.size w w' := by
  obtain ⟨Z, hZ⟩ : ∃ Z, Z = ((((((nameOkL e.box.data.toList && ((([] == e.dst.toList) && ([] == e.text.toList)))) && okS e.set) && flOk e.bits) && inI e.how 1 3) && inI e.since (-1) 100000)) := ⟨_, rfl⟩
  rw [← hZ, hk]
  have SM := hide hs
  have RS := hide hr
  have HZ := hide hZ
  clear hs hr hZ hk
  have BB := hide (Below.refl w.heap.size w)
  obtain ⟨wk1, hA⟩ : ∃ X, X = w.alloc (.cells ([.int .i64 4, .string e.box, .string e.dst, .slice a e.set.length c, .int .i64 e.how, .int .i64 e.bits, .int .i64 e.since, .string e.text] : List Value).toArray 30) := ⟨_, rfl⟩
  have Ax : HasObj wk1 w.heap.size 30 [.int .i64 4, .string e.box, .string e.dst, .slice a e.set.length c, .int .i64 e.how, .int .i64 e.bits, .int .i64 e.since, .string e.text] := by rw [hA]; exact HasObj.new _ _ _
  have hbn : Below w.heap.size w wk1 := by rw [hA]; exact (Below.refl _ _).alloc (Nat.le_refl _) _
  have loA : w.heap.size ≤ w.heap.size := (unhide BB).size
  have EA := hA.symm
  clear hA
  have RS_ := hide ((unhide RS).up hbn)
  clear RS
  have RS := RS_
  clear RS_
  have sz1 := hide (hbn.size)
  have BB_ := hide (below_y (unhide BB) hbn)
  clear BB
  have BB := BB_
  clear BB_
  clear hbn
  have A := hide Ax
  clear Ax
  have Ac0_1 := (unhide A).cell 0 rfl
  have Ac1_1 := (unhide A).cell 1 rfl
  have Ac2_1 := (unhide A).cell 2 rfl
  have Ac3_1 := (unhide A).cell 3 rfl
  have Ac4_1 := (unhide A).cell 4 rfl
  have Ac5_1 := (unhide A).cell 5 rfl
  have Ac6_1 := (unhide A).cell 6 rfl
  have Ac7_1 := (unhide A).cell 7 rfl
  go_enter Tryd.func10, Tryd.ntmps10
  go_wp2_with fail
  clear Ac0_1 Ac1_1 Ac2_1 Ac3_1 Ac4_1 Ac5_1 Ac6_1 Ac7_1 EA
  refine (in_any 4 1 8 _).mono ?_
  rintro x wk2 ⟨rfl, hw⟩
  subst wk2
  rw [show inI 4 1 8 = true from rfl]
  have Ac0_2 := (unhide A).cell 0 rfl
  have Ac1_2 := (unhide A).cell 1 rfl
  have Ac2_2 := (unhide A).cell 2 rfl
  have Ac3_2 := (unhide A).cell 3 rfl
  have Ac4_2 := (unhide A).cell 4 rfl
  have Ac5_2 := (unhide A).cell 5 rfl
  have Ac6_2 := (unhide A).cell 6 rfl
  have Ac7_2 := (unhide A).cell 7 rfl
  go_wp2_with fail
  clear Ac0_2 Ac1_2 Ac2_2 Ac3_2 Ac4_2 Ac5_2 Ac6_2 Ac7_2
  refine (spec_BoxName_any e.box _ (unhide SM).box).mono ?_
  rintro x wk3 ⟨rfl, hw⟩
  obtain ⟨Y0, hY0⟩ : ∃ Y, Y = (nameOkL e.box.data.toList) := ⟨_, rfl⟩
  rw [← hY0]
  have HY0 := hide hY0
  clear hY0
  subst wk3
  cases h0_ : Y0 with
  | false =>
    have hA : Z = false := by rw [unhide HZ]; rw [← unhide HY0]; simp [h0_]
    clear HZ
    subst hA
    have Ac0_3 := (unhide A).cell 0 rfl
    have Ac1_3 := (unhide A).cell 1 rfl
    have Ac2_3 := (unhide A).cell 2 rfl
    have Ac3_3 := (unhide A).cell 3 rfl
    have Ac4_3 := (unhide A).cell 4 rfl
    have Ac5_3 := (unhide A).cell 5 rfl
    have Ac6_3 := (unhide A).cell 6 rfl
    have Ac7_3 := (unhide A).cell 7 rfl
    skip
    go_wp2
    go_ret
    exact ⟨rfl, unhide BB⟩
  | true =>
    have Ac0_3 := (unhide A).cell 0 rfl
    have Ac1_3 := (unhide A).cell 1 rfl
    have Ac2_3 := (unhide A).cell 2 rfl
    have Ac3_3 := (unhide A).cell 3 rfl
    have Ac4_3 := (unhide A).cell 4 rfl
    have Ac5_3 := (unhide A).cell 5 rfl
    have Ac6_3 := (unhide A).cell 6 rfl
    have Ac7_3 := (unhide A).cell 7 rfl
    go_wp2_with fail
    clear Ac0_3 Ac1_3 Ac2_3 Ac3_3 Ac4_3 Ac5_3 Ac6_3 Ac7_3
    refine (uses4 e.box e.dst e.text e.set.length e.how e.bits e.since a c _ (unhide SM).set).mono ?_
    rintro x wk4 ⟨rfl, hb⟩
    obtain ⟨Y1, hY1⟩ : ∃ Y, Y = (((([] == e.dst.toList) && ([] == e.text.toList)))) := ⟨_, rfl⟩
    rw [← hY1]
    have HY1 := hide hY1
    clear hY1
    have A_ := hide ((unhide A).ups hb)
    clear A
    have A := A_
    clear A_
    have RS_ := hide ((unhide RS).up hb)
    clear RS
    have RS := RS_
    clear RS_
    have sz2 := hide (hb.size)
    have BB_ := hide (below_y (unhide BB) hb)
    clear BB
    have BB := BB_
    clear BB_
    clear hb
    cases h1_ : Y1 with
    | false =>
      have hA : Z = false := by rw [unhide HZ]; rw [← unhide HY0]; rw [← unhide HY1]; simp [h0_, h1_]
      clear HZ
      subst hA
      have Ac0_4 := (unhide A).cell 0 rfl
      have Ac1_4 := (unhide A).cell 1 rfl
      have Ac2_4 := (unhide A).cell 2 rfl
      have Ac3_4 := (unhide A).cell 3 rfl
      have Ac4_4 := (unhide A).cell 4 rfl
      have Ac5_4 := (unhide A).cell 5 rfl
      have Ac6_4 := (unhide A).cell 6 rfl
      have Ac7_4 := (unhide A).cell 7 rfl
      skip
      go_wp2
      go_ret
      exact ⟨rfl, unhide BB⟩
    | true =>
      have Ac0_4 := (unhide A).cell 0 rfl
      have Ac1_4 := (unhide A).cell 1 rfl
      have Ac2_4 := (unhide A).cell 2 rfl
      have Ac3_4 := (unhide A).cell 3 rfl
      have Ac4_4 := (unhide A).cell 4 rfl
      have Ac5_4 := (unhide A).cell 5 rfl
      have Ac6_4 := (unhide A).cell 6 rfl
      have Ac7_4 := (unhide A).cell 7 rfl
      go_wp2_with fail
      clear Ac0_4 Ac1_4 Ac2_4 Ac3_4 Ac4_4 Ac5_4 Ac6_4 Ac7_4
      refine (setOkE e.set _ _ _ (unhide SM).set (unhide RS)).mono ?_
      rintro x wk5 ⟨rfl, hb⟩
      obtain ⟨Y2, hY2⟩ : ∃ Y, Y = (okS e.set) := ⟨_, rfl⟩
      rw [← hY2]
      have HY2 := hide hY2
      clear hY2
      have A_ := hide ((unhide A).ups hb)
      clear A
      have A := A_
      clear A_
      have RS_ := hide ((unhide RS).up hb)
      clear RS
      have RS := RS_
      clear RS_
      have sz3 := hide (hb.size)
      have BB_ := hide (below_y (unhide BB) hb)
      clear BB
      have BB := BB_
      clear BB_
      clear hb
      cases h2_ : Y2 with
      | false =>
        have hA : Z = false := by rw [unhide HZ]; rw [← unhide HY0]; rw [← unhide HY1]; rw [← unhide HY2]; simp [h0_, h1_, h2_]
        clear HZ
        subst hA
        have Ac0_5 := (unhide A).cell 0 rfl
        have Ac1_5 := (unhide A).cell 1 rfl
        have Ac2_5 := (unhide A).cell 2 rfl
        have Ac3_5 := (unhide A).cell 3 rfl
        have Ac4_5 := (unhide A).cell 4 rfl
        have Ac5_5 := (unhide A).cell 5 rfl
        have Ac6_5 := (unhide A).cell 6 rfl
        have Ac7_5 := (unhide A).cell 7 rfl
        skip
        go_wp2
        go_ret
        exact ⟨rfl, unhide BB⟩
      | true =>
        have Ac0_5 := (unhide A).cell 0 rfl
        have Ac1_5 := (unhide A).cell 1 rfl
        have Ac2_5 := (unhide A).cell 2 rfl
        have Ac3_5 := (unhide A).cell 3 rfl
        have Ac4_5 := (unhide A).cell 4 rfl
        have Ac5_5 := (unhide A).cell 5 rfl
        have Ac6_5 := (unhide A).cell 6 rfl
        have Ac7_5 := (unhide A).cell 7 rfl
        go_wp2_with fail
        clear Ac0_5 Ac1_5 Ac2_5 Ac3_5 Ac4_5 Ac5_5 Ac6_5 Ac7_5
        refine (spec_FlagsOk_any e.bits _).mono ?_
        rintro x wk6 ⟨rfl, hw⟩
        obtain ⟨Y3, hY3⟩ : ∃ Y, Y = (flOk e.bits) := ⟨_, rfl⟩
        rw [← hY3]
        have HY3 := hide hY3
        clear hY3
        subst wk6
        cases h3_ : Y3 with
        | false =>
          have hA : Z = false := by rw [unhide HZ]; rw [← unhide HY0]; rw [← unhide HY1]; rw [← unhide HY2]; rw [← unhide HY3]; simp [h0_, h1_, h2_, h3_]
          clear HZ
          subst hA
          have Ac0_6 := (unhide A).cell 0 rfl
          have Ac1_6 := (unhide A).cell 1 rfl
          have Ac2_6 := (unhide A).cell 2 rfl
          have Ac3_6 := (unhide A).cell 3 rfl
          have Ac4_6 := (unhide A).cell 4 rfl
          have Ac5_6 := (unhide A).cell 5 rfl
          have Ac6_6 := (unhide A).cell 6 rfl
          have Ac7_6 := (unhide A).cell 7 rfl
          skip
          go_wp2
          go_ret
          exact ⟨rfl, unhide BB⟩
        | true =>
          have Ac0_6 := (unhide A).cell 0 rfl
          have Ac1_6 := (unhide A).cell 1 rfl
          have Ac2_6 := (unhide A).cell 2 rfl
          have Ac3_6 := (unhide A).cell 3 rfl
          have Ac4_6 := (unhide A).cell 4 rfl
          have Ac5_6 := (unhide A).cell 5 rfl
          have Ac6_6 := (unhide A).cell 6 rfl
          have Ac7_6 := (unhide A).cell 7 rfl
          go_wp2_with fail
          clear Ac0_6 Ac1_6 Ac2_6 Ac3_6 Ac4_6 Ac5_6 Ac6_6 Ac7_6
          refine (in_any e.how 1 3 _).mono ?_
          rintro x wk7 ⟨rfl, hw⟩
          obtain ⟨Y4, hY4⟩ : ∃ Y, Y = (inI e.how 1 3) := ⟨_, rfl⟩
          rw [← hY4]
          have HY4 := hide hY4
          clear hY4
          subst wk7
          cases h4_ : Y4 with
          | false =>
            have hA : Z = false := by rw [unhide HZ]; rw [← unhide HY0]; rw [← unhide HY1]; rw [← unhide HY2]; rw [← unhide HY3]; rw [← unhide HY4]; simp [h0_, h1_, h2_, h3_, h4_]
            clear HZ
            subst hA
            have Ac0_7 := (unhide A).cell 0 rfl
            have Ac1_7 := (unhide A).cell 1 rfl
            have Ac2_7 := (unhide A).cell 2 rfl
            have Ac3_7 := (unhide A).cell 3 rfl
            have Ac4_7 := (unhide A).cell 4 rfl
            have Ac5_7 := (unhide A).cell 5 rfl
            have Ac6_7 := (unhide A).cell 6 rfl
            have Ac7_7 := (unhide A).cell 7 rfl
            skip
            go_wp2
            go_ret
            exact ⟨rfl, unhide BB⟩
          | true =>
            have Ac0_7 := (unhide A).cell 0 rfl
            have Ac1_7 := (unhide A).cell 1 rfl
            have Ac2_7 := (unhide A).cell 2 rfl
            have Ac3_7 := (unhide A).cell 3 rfl
            have Ac4_7 := (unhide A).cell 4 rfl
            have Ac5_7 := (unhide A).cell 5 rfl
            have Ac6_7 := (unhide A).cell 6 rfl
            have Ac7_7 := (unhide A).cell 7 rfl
            go_wp2_with fail
            clear Ac0_7 Ac1_7 Ac2_7 Ac3_7 Ac4_7 Ac5_7 Ac6_7 Ac7_7
            refine (in_any e.since (-1) 100000 _).mono ?_
            rintro x wk8 ⟨rfl, hw⟩
            obtain ⟨Y5, hY5⟩ : ∃ Y, Y = (inI e.since (-1) 100000) := ⟨_, rfl⟩
            rw [← hY5]
            have HY5 := hide hY5
            clear hY5
            subst wk8
            have hA : Z = Y5 := by rw [unhide HZ]; rw [← unhide HY0]; rw [← unhide HY1]; rw [← unhide HY2]; rw [← unhide HY3]; rw [← unhide HY4]; rw [← unhide HY5]; simp [h0_, h1_, h2_, h3_, h4_]
            clear HZ
            subst hA
            have Ac0_8 := (unhide A).cell 0 rfl
            have Ac1_8 := (unhide A).cell 1 rfl
            have Ac2_8 := (unhide A).cell 2 rfl
            have Ac3_8 := (unhide A).cell 3 rfl
            have Ac4_8 := (unhide A).cell 4 rfl
            have Ac5_8 := (unhide A).cell 5 rfl
            have Ac6_8 := (unhide A).cell 6 rfl
            have Ac7_8 := (unhide A).cell 7 rfl
            go_wp2
            go_ret
            exact ⟨rfl, unhide BB⟩
set_option maxHeartbeats 4000000 in
set_option maxRecDepth 100000 in
theorem okS5 (e : Ed) (a : Option Addr) (c B : Nat) (w : World) (hk : e.kind = 5) (hs : SmallEd 1048576 e) (hr : OwnR B w (.slice a e.set.length c) e.set) :
    Calls Tryd.prog 10 #[.agg #[.int .i64 e.kind, .string e.box, .string e.dst, .slice a e.set.length c, .int .i64 e.how, .int .i64 e.bits, .int .i64 e.since, .string e.text]] w fun x w' => x = .returned (.bool ((((nameOkL e.box.data.toList && (((((([] == e.dst.toList) && decide ((0 : Int) = e.how)) && decide ((0 : Int) = e.bits)) && decide ((0 : Int) = e.since)) && ([] == e.text.toList)))) && okS e.set) && flOk e.bits))) ∧ Below w.heap.size w w' := by
  obtain ⟨Z, hZ⟩ : ∃ Z, Z = ((((nameOkL e.box.data.toList && (((((([] == e.dst.toList) && decide ((0 : Int) = e.how)) && decide ((0 : Int) = e.bits)) && decide ((0 : Int) = e.since)) && ([] == e.text.toList)))) && okS e.set) && flOk e.bits)) := ⟨_, rfl⟩
  rw [← hZ, hk]
  have SM := hide hs
  have RS := hide hr
  have HZ := hide hZ
  clear hs hr hZ hk
  have BB := hide (Below.refl w.heap.size w)
  obtain ⟨wk1, hA⟩ : ∃ X, X = w.alloc (.cells ([.int .i64 5, .string e.box, .string e.dst, .slice a e.set.length c, .int .i64 e.how, .int .i64 e.bits, .int .i64 e.since, .string e.text] : List Value).toArray 30) := ⟨_, rfl⟩
  have Ax : HasObj wk1 w.heap.size 30 [.int .i64 5, .string e.box, .string e.dst, .slice a e.set.length c, .int .i64 e.how, .int .i64 e.bits, .int .i64 e.since, .string e.text] := by rw [hA]; exact HasObj.new _ _ _
  have hbn : Below w.heap.size w wk1 := by rw [hA]; exact (Below.refl _ _).alloc (Nat.le_refl _) _
  have loA : w.heap.size ≤ w.heap.size := (unhide BB).size
  have EA := hA.symm
  clear hA
  have RS_ := hide ((unhide RS).up hbn)
  clear RS
  have RS := RS_
  clear RS_
  have sz1 := hide (hbn.size)
  have BB_ := hide (below_y (unhide BB) hbn)
  clear BB
  have BB := BB_
  clear BB_
  clear hbn
  have A := hide Ax
  clear Ax
  have Ac0_1 := (unhide A).cell 0 rfl
  have Ac1_1 := (unhide A).cell 1 rfl
  have Ac2_1 := (unhide A).cell 2 rfl
  have Ac3_1 := (unhide A).cell 3 rfl
  have Ac4_1 := (unhide A).cell 4 rfl
  have Ac5_1 := (unhide A).cell 5 rfl
  have Ac6_1 := (unhide A).cell 6 rfl
  have Ac7_1 := (unhide A).cell 7 rfl
  go_enter Tryd.func10, Tryd.ntmps10
  go_wp2_with fail
  clear Ac0_1 Ac1_1 Ac2_1 Ac3_1 Ac4_1 Ac5_1 Ac6_1 Ac7_1 EA
  refine (in_any 5 1 8 _).mono ?_
  rintro x wk2 ⟨rfl, hw⟩
  subst wk2
  rw [show inI 5 1 8 = true from rfl]
  have Ac0_2 := (unhide A).cell 0 rfl
  have Ac1_2 := (unhide A).cell 1 rfl
  have Ac2_2 := (unhide A).cell 2 rfl
  have Ac3_2 := (unhide A).cell 3 rfl
  have Ac4_2 := (unhide A).cell 4 rfl
  have Ac5_2 := (unhide A).cell 5 rfl
  have Ac6_2 := (unhide A).cell 6 rfl
  have Ac7_2 := (unhide A).cell 7 rfl
  go_wp2_with fail
  clear Ac0_2 Ac1_2 Ac2_2 Ac3_2 Ac4_2 Ac5_2 Ac6_2 Ac7_2
  refine (spec_BoxName_any e.box _ (unhide SM).box).mono ?_
  rintro x wk3 ⟨rfl, hw⟩
  obtain ⟨Y0, hY0⟩ : ∃ Y, Y = (nameOkL e.box.data.toList) := ⟨_, rfl⟩
  rw [← hY0]
  have HY0 := hide hY0
  clear hY0
  subst wk3
  cases h0_ : Y0 with
  | false =>
    have hA : Z = false := by rw [unhide HZ]; rw [← unhide HY0]; simp [h0_]
    clear HZ
    subst hA
    have Ac0_3 := (unhide A).cell 0 rfl
    have Ac1_3 := (unhide A).cell 1 rfl
    have Ac2_3 := (unhide A).cell 2 rfl
    have Ac3_3 := (unhide A).cell 3 rfl
    have Ac4_3 := (unhide A).cell 4 rfl
    have Ac5_3 := (unhide A).cell 5 rfl
    have Ac6_3 := (unhide A).cell 6 rfl
    have Ac7_3 := (unhide A).cell 7 rfl
    skip
    go_wp2
    go_ret
    exact ⟨rfl, unhide BB⟩
  | true =>
    have Ac0_3 := (unhide A).cell 0 rfl
    have Ac1_3 := (unhide A).cell 1 rfl
    have Ac2_3 := (unhide A).cell 2 rfl
    have Ac3_3 := (unhide A).cell 3 rfl
    have Ac4_3 := (unhide A).cell 4 rfl
    have Ac5_3 := (unhide A).cell 5 rfl
    have Ac6_3 := (unhide A).cell 6 rfl
    have Ac7_3 := (unhide A).cell 7 rfl
    go_wp2_with fail
    clear Ac0_3 Ac1_3 Ac2_3 Ac3_3 Ac4_3 Ac5_3 Ac6_3 Ac7_3
    refine (uses5 e.box e.dst e.text e.set.length e.how e.bits e.since a c _ (unhide SM).set).mono ?_
    rintro x wk4 ⟨rfl, hb⟩
    obtain ⟨Y1, hY1⟩ : ∃ Y, Y = ((((((([] == e.dst.toList) && decide ((0 : Int) = e.how)) && decide ((0 : Int) = e.bits)) && decide ((0 : Int) = e.since)) && ([] == e.text.toList)))) := ⟨_, rfl⟩
    rw [← hY1]
    have HY1 := hide hY1
    clear hY1
    have A_ := hide ((unhide A).ups hb)
    clear A
    have A := A_
    clear A_
    have RS_ := hide ((unhide RS).up hb)
    clear RS
    have RS := RS_
    clear RS_
    have sz2 := hide (hb.size)
    have BB_ := hide (below_y (unhide BB) hb)
    clear BB
    have BB := BB_
    clear BB_
    clear hb
    cases h1_ : Y1 with
    | false =>
      have hA : Z = false := by rw [unhide HZ]; rw [← unhide HY0]; rw [← unhide HY1]; simp [h0_, h1_]
      clear HZ
      subst hA
      have Ac0_4 := (unhide A).cell 0 rfl
      have Ac1_4 := (unhide A).cell 1 rfl
      have Ac2_4 := (unhide A).cell 2 rfl
      have Ac3_4 := (unhide A).cell 3 rfl
      have Ac4_4 := (unhide A).cell 4 rfl
      have Ac5_4 := (unhide A).cell 5 rfl
      have Ac6_4 := (unhide A).cell 6 rfl
      have Ac7_4 := (unhide A).cell 7 rfl
      skip
      go_wp2
      go_ret
      exact ⟨rfl, unhide BB⟩
    | true =>
      have Ac0_4 := (unhide A).cell 0 rfl
      have Ac1_4 := (unhide A).cell 1 rfl
      have Ac2_4 := (unhide A).cell 2 rfl
      have Ac3_4 := (unhide A).cell 3 rfl
      have Ac4_4 := (unhide A).cell 4 rfl
      have Ac5_4 := (unhide A).cell 5 rfl
      have Ac6_4 := (unhide A).cell 6 rfl
      have Ac7_4 := (unhide A).cell 7 rfl
      go_wp2_with fail
      clear Ac0_4 Ac1_4 Ac2_4 Ac3_4 Ac4_4 Ac5_4 Ac6_4 Ac7_4
      refine (setOkE e.set _ _ _ (unhide SM).set (unhide RS)).mono ?_
      rintro x wk5 ⟨rfl, hb⟩
      obtain ⟨Y2, hY2⟩ : ∃ Y, Y = (okS e.set) := ⟨_, rfl⟩
      rw [← hY2]
      have HY2 := hide hY2
      clear hY2
      have A_ := hide ((unhide A).ups hb)
      clear A
      have A := A_
      clear A_
      have RS_ := hide ((unhide RS).up hb)
      clear RS
      have RS := RS_
      clear RS_
      have sz3 := hide (hb.size)
      have BB_ := hide (below_y (unhide BB) hb)
      clear BB
      have BB := BB_
      clear BB_
      clear hb
      cases h2_ : Y2 with
      | false =>
        have hA : Z = false := by rw [unhide HZ]; rw [← unhide HY0]; rw [← unhide HY1]; rw [← unhide HY2]; simp [h0_, h1_, h2_]
        clear HZ
        subst hA
        have Ac0_5 := (unhide A).cell 0 rfl
        have Ac1_5 := (unhide A).cell 1 rfl
        have Ac2_5 := (unhide A).cell 2 rfl
        have Ac3_5 := (unhide A).cell 3 rfl
        have Ac4_5 := (unhide A).cell 4 rfl
        have Ac5_5 := (unhide A).cell 5 rfl
        have Ac6_5 := (unhide A).cell 6 rfl
        have Ac7_5 := (unhide A).cell 7 rfl
        skip
        go_wp2
        go_ret
        exact ⟨rfl, unhide BB⟩
      | true =>
        have Ac0_5 := (unhide A).cell 0 rfl
        have Ac1_5 := (unhide A).cell 1 rfl
        have Ac2_5 := (unhide A).cell 2 rfl
        have Ac3_5 := (unhide A).cell 3 rfl
        have Ac4_5 := (unhide A).cell 4 rfl
        have Ac5_5 := (unhide A).cell 5 rfl
        have Ac6_5 := (unhide A).cell 6 rfl
        have Ac7_5 := (unhide A).cell 7 rfl
        go_wp2_with fail
        clear Ac0_5 Ac1_5 Ac2_5 Ac3_5 Ac4_5 Ac5_5 Ac6_5 Ac7_5
        refine (spec_FlagsOk_any e.bits _).mono ?_
        rintro x wk6 ⟨rfl, hw⟩
        obtain ⟨Y3, hY3⟩ : ∃ Y, Y = (flOk e.bits) := ⟨_, rfl⟩
        rw [← hY3]
        have HY3 := hide hY3
        clear hY3
        subst wk6
        cases h3_ : Y3 with
        | false =>
          have hA : Z = false := by rw [unhide HZ]; rw [← unhide HY0]; rw [← unhide HY1]; rw [← unhide HY2]; rw [← unhide HY3]; simp [h0_, h1_, h2_, h3_]
          clear HZ
          subst hA
          have Ac0_6 := (unhide A).cell 0 rfl
          have Ac1_6 := (unhide A).cell 1 rfl
          have Ac2_6 := (unhide A).cell 2 rfl
          have Ac3_6 := (unhide A).cell 3 rfl
          have Ac4_6 := (unhide A).cell 4 rfl
          have Ac5_6 := (unhide A).cell 5 rfl
          have Ac6_6 := (unhide A).cell 6 rfl
          have Ac7_6 := (unhide A).cell 7 rfl
          skip
          go_wp2
          go_ret
          exact ⟨rfl, unhide BB⟩
        | true =>
          have hA : Z = true := by rw [unhide HZ]; rw [← unhide HY0]; rw [← unhide HY1]; rw [← unhide HY2]; rw [← unhide HY3]; simp [h0_, h1_, h2_, h3_]
          clear HZ
          subst hA
          have Ac0_6 := (unhide A).cell 0 rfl
          have Ac1_6 := (unhide A).cell 1 rfl
          have Ac2_6 := (unhide A).cell 2 rfl
          have Ac3_6 := (unhide A).cell 3 rfl
          have Ac4_6 := (unhide A).cell 4 rfl
          have Ac5_6 := (unhide A).cell 5 rfl
          have Ac6_6 := (unhide A).cell 6 rfl
          have Ac7_6 := (unhide A).cell 7 rfl
          go_wp2
          go_ret
          exact ⟨rfl, unhide BB⟩
set_option maxHeartbeats 4000000 in
set_option maxRecDepth 100000 in
theorem okS6 (e : Ed) (a : Option Addr) (c B : Nat) (w : World) (hk : e.kind = 6) (hs : SmallEd 1048576 e) (hr : OwnR B w (.slice a e.set.length c) e.set) :
    Calls Tryd.prog 10 #[.agg #[.int .i64 e.kind, .string e.box, .string e.dst, .slice a e.set.length c, .int .i64 e.how, .int .i64 e.bits, .int .i64 e.since, .string e.text]] w fun x w' => x = .returned (.bool (((((nameOkL e.box.data.toList && ((((decide ((0 : Int) = e.how) && decide ((0 : Int) = e.bits)) && decide ((0 : Int) = e.since)) && ([] == e.text.toList)))) && okS e.set) && flOk e.bits) && nameOkL e.dst.data.toList))) ∧ Below w.heap.size w w' := by
  obtain ⟨Z, hZ⟩ : ∃ Z, Z = (((((nameOkL e.box.data.toList && ((((decide ((0 : Int) = e.how) && decide ((0 : Int) = e.bits)) && decide ((0 : Int) = e.since)) && ([] == e.text.toList)))) && okS e.set) && flOk e.bits) && nameOkL e.dst.data.toList)) := ⟨_, rfl⟩
  rw [← hZ, hk]
  have SM := hide hs
  have RS := hide hr
  have HZ := hide hZ
  clear hs hr hZ hk
  have BB := hide (Below.refl w.heap.size w)
  obtain ⟨wk1, hA⟩ : ∃ X, X = w.alloc (.cells ([.int .i64 6, .string e.box, .string e.dst, .slice a e.set.length c, .int .i64 e.how, .int .i64 e.bits, .int .i64 e.since, .string e.text] : List Value).toArray 30) := ⟨_, rfl⟩
  have Ax : HasObj wk1 w.heap.size 30 [.int .i64 6, .string e.box, .string e.dst, .slice a e.set.length c, .int .i64 e.how, .int .i64 e.bits, .int .i64 e.since, .string e.text] := by rw [hA]; exact HasObj.new _ _ _
  have hbn : Below w.heap.size w wk1 := by rw [hA]; exact (Below.refl _ _).alloc (Nat.le_refl _) _
  have loA : w.heap.size ≤ w.heap.size := (unhide BB).size
  have EA := hA.symm
  clear hA
  have RS_ := hide ((unhide RS).up hbn)
  clear RS
  have RS := RS_
  clear RS_
  have sz1 := hide (hbn.size)
  have BB_ := hide (below_y (unhide BB) hbn)
  clear BB
  have BB := BB_
  clear BB_
  clear hbn
  have A := hide Ax
  clear Ax
  have Ac0_1 := (unhide A).cell 0 rfl
  have Ac1_1 := (unhide A).cell 1 rfl
  have Ac2_1 := (unhide A).cell 2 rfl
  have Ac3_1 := (unhide A).cell 3 rfl
  have Ac4_1 := (unhide A).cell 4 rfl
  have Ac5_1 := (unhide A).cell 5 rfl
  have Ac6_1 := (unhide A).cell 6 rfl
  have Ac7_1 := (unhide A).cell 7 rfl
  go_enter Tryd.func10, Tryd.ntmps10
  go_wp2_with fail
  clear Ac0_1 Ac1_1 Ac2_1 Ac3_1 Ac4_1 Ac5_1 Ac6_1 Ac7_1 EA
  refine (in_any 6 1 8 _).mono ?_
  rintro x wk2 ⟨rfl, hw⟩
  subst wk2
  rw [show inI 6 1 8 = true from rfl]
  have Ac0_2 := (unhide A).cell 0 rfl
  have Ac1_2 := (unhide A).cell 1 rfl
  have Ac2_2 := (unhide A).cell 2 rfl
  have Ac3_2 := (unhide A).cell 3 rfl
  have Ac4_2 := (unhide A).cell 4 rfl
  have Ac5_2 := (unhide A).cell 5 rfl
  have Ac6_2 := (unhide A).cell 6 rfl
  have Ac7_2 := (unhide A).cell 7 rfl
  go_wp2_with fail
  clear Ac0_2 Ac1_2 Ac2_2 Ac3_2 Ac4_2 Ac5_2 Ac6_2 Ac7_2
  refine (spec_BoxName_any e.box _ (unhide SM).box).mono ?_
  rintro x wk3 ⟨rfl, hw⟩
  obtain ⟨Y0, hY0⟩ : ∃ Y, Y = (nameOkL e.box.data.toList) := ⟨_, rfl⟩
  rw [← hY0]
  have HY0 := hide hY0
  clear hY0
  subst wk3
  cases h0_ : Y0 with
  | false =>
    have hA : Z = false := by rw [unhide HZ]; rw [← unhide HY0]; simp [h0_]
    clear HZ
    subst hA
    have Ac0_3 := (unhide A).cell 0 rfl
    have Ac1_3 := (unhide A).cell 1 rfl
    have Ac2_3 := (unhide A).cell 2 rfl
    have Ac3_3 := (unhide A).cell 3 rfl
    have Ac4_3 := (unhide A).cell 4 rfl
    have Ac5_3 := (unhide A).cell 5 rfl
    have Ac6_3 := (unhide A).cell 6 rfl
    have Ac7_3 := (unhide A).cell 7 rfl
    skip
    go_wp2
    go_ret
    exact ⟨rfl, unhide BB⟩
  | true =>
    have Ac0_3 := (unhide A).cell 0 rfl
    have Ac1_3 := (unhide A).cell 1 rfl
    have Ac2_3 := (unhide A).cell 2 rfl
    have Ac3_3 := (unhide A).cell 3 rfl
    have Ac4_3 := (unhide A).cell 4 rfl
    have Ac5_3 := (unhide A).cell 5 rfl
    have Ac6_3 := (unhide A).cell 6 rfl
    have Ac7_3 := (unhide A).cell 7 rfl
    go_wp2_with fail
    clear Ac0_3 Ac1_3 Ac2_3 Ac3_3 Ac4_3 Ac5_3 Ac6_3 Ac7_3
    refine (uses6 e.box e.dst e.text e.set.length e.how e.bits e.since a c _ (unhide SM).set).mono ?_
    rintro x wk4 ⟨rfl, hb⟩
    obtain ⟨Y1, hY1⟩ : ∃ Y, Y = (((((decide ((0 : Int) = e.how) && decide ((0 : Int) = e.bits)) && decide ((0 : Int) = e.since)) && ([] == e.text.toList)))) := ⟨_, rfl⟩
    rw [← hY1]
    have HY1 := hide hY1
    clear hY1
    have A_ := hide ((unhide A).ups hb)
    clear A
    have A := A_
    clear A_
    have RS_ := hide ((unhide RS).up hb)
    clear RS
    have RS := RS_
    clear RS_
    have sz2 := hide (hb.size)
    have BB_ := hide (below_y (unhide BB) hb)
    clear BB
    have BB := BB_
    clear BB_
    clear hb
    cases h1_ : Y1 with
    | false =>
      have hA : Z = false := by rw [unhide HZ]; rw [← unhide HY0]; rw [← unhide HY1]; simp [h0_, h1_]
      clear HZ
      subst hA
      have Ac0_4 := (unhide A).cell 0 rfl
      have Ac1_4 := (unhide A).cell 1 rfl
      have Ac2_4 := (unhide A).cell 2 rfl
      have Ac3_4 := (unhide A).cell 3 rfl
      have Ac4_4 := (unhide A).cell 4 rfl
      have Ac5_4 := (unhide A).cell 5 rfl
      have Ac6_4 := (unhide A).cell 6 rfl
      have Ac7_4 := (unhide A).cell 7 rfl
      skip
      go_wp2
      go_ret
      exact ⟨rfl, unhide BB⟩
    | true =>
      have Ac0_4 := (unhide A).cell 0 rfl
      have Ac1_4 := (unhide A).cell 1 rfl
      have Ac2_4 := (unhide A).cell 2 rfl
      have Ac3_4 := (unhide A).cell 3 rfl
      have Ac4_4 := (unhide A).cell 4 rfl
      have Ac5_4 := (unhide A).cell 5 rfl
      have Ac6_4 := (unhide A).cell 6 rfl
      have Ac7_4 := (unhide A).cell 7 rfl
      go_wp2_with fail
      clear Ac0_4 Ac1_4 Ac2_4 Ac3_4 Ac4_4 Ac5_4 Ac6_4 Ac7_4
      refine (setOkE e.set _ _ _ (unhide SM).set (unhide RS)).mono ?_
      rintro x wk5 ⟨rfl, hb⟩
      obtain ⟨Y2, hY2⟩ : ∃ Y, Y = (okS e.set) := ⟨_, rfl⟩
      rw [← hY2]
      have HY2 := hide hY2
      clear hY2
      have A_ := hide ((unhide A).ups hb)
      clear A
      have A := A_
      clear A_
      have RS_ := hide ((unhide RS).up hb)
      clear RS
      have RS := RS_
      clear RS_
      have sz3 := hide (hb.size)
      have BB_ := hide (below_y (unhide BB) hb)
      clear BB
      have BB := BB_
      clear BB_
      clear hb
      cases h2_ : Y2 with
      | false =>
        have hA : Z = false := by rw [unhide HZ]; rw [← unhide HY0]; rw [← unhide HY1]; rw [← unhide HY2]; simp [h0_, h1_, h2_]
        clear HZ
        subst hA
        have Ac0_5 := (unhide A).cell 0 rfl
        have Ac1_5 := (unhide A).cell 1 rfl
        have Ac2_5 := (unhide A).cell 2 rfl
        have Ac3_5 := (unhide A).cell 3 rfl
        have Ac4_5 := (unhide A).cell 4 rfl
        have Ac5_5 := (unhide A).cell 5 rfl
        have Ac6_5 := (unhide A).cell 6 rfl
        have Ac7_5 := (unhide A).cell 7 rfl
        skip
        go_wp2
        go_ret
        exact ⟨rfl, unhide BB⟩
      | true =>
        have Ac0_5 := (unhide A).cell 0 rfl
        have Ac1_5 := (unhide A).cell 1 rfl
        have Ac2_5 := (unhide A).cell 2 rfl
        have Ac3_5 := (unhide A).cell 3 rfl
        have Ac4_5 := (unhide A).cell 4 rfl
        have Ac5_5 := (unhide A).cell 5 rfl
        have Ac6_5 := (unhide A).cell 6 rfl
        have Ac7_5 := (unhide A).cell 7 rfl
        go_wp2_with fail
        clear Ac0_5 Ac1_5 Ac2_5 Ac3_5 Ac4_5 Ac5_5 Ac6_5 Ac7_5
        refine (spec_FlagsOk_any e.bits _).mono ?_
        rintro x wk6 ⟨rfl, hw⟩
        obtain ⟨Y3, hY3⟩ : ∃ Y, Y = (flOk e.bits) := ⟨_, rfl⟩
        rw [← hY3]
        have HY3 := hide hY3
        clear hY3
        subst wk6
        cases h3_ : Y3 with
        | false =>
          have hA : Z = false := by rw [unhide HZ]; rw [← unhide HY0]; rw [← unhide HY1]; rw [← unhide HY2]; rw [← unhide HY3]; simp [h0_, h1_, h2_, h3_]
          clear HZ
          subst hA
          have Ac0_6 := (unhide A).cell 0 rfl
          have Ac1_6 := (unhide A).cell 1 rfl
          have Ac2_6 := (unhide A).cell 2 rfl
          have Ac3_6 := (unhide A).cell 3 rfl
          have Ac4_6 := (unhide A).cell 4 rfl
          have Ac5_6 := (unhide A).cell 5 rfl
          have Ac6_6 := (unhide A).cell 6 rfl
          have Ac7_6 := (unhide A).cell 7 rfl
          skip
          go_wp2
          go_ret
          exact ⟨rfl, unhide BB⟩
        | true =>
          have Ac0_6 := (unhide A).cell 0 rfl
          have Ac1_6 := (unhide A).cell 1 rfl
          have Ac2_6 := (unhide A).cell 2 rfl
          have Ac3_6 := (unhide A).cell 3 rfl
          have Ac4_6 := (unhide A).cell 4 rfl
          have Ac5_6 := (unhide A).cell 5 rfl
          have Ac6_6 := (unhide A).cell 6 rfl
          have Ac7_6 := (unhide A).cell 7 rfl
          go_wp2_with fail
          clear Ac0_6 Ac1_6 Ac2_6 Ac3_6 Ac4_6 Ac5_6 Ac6_6 Ac7_6
          refine (spec_BoxName_any e.dst _ (unhide SM).dst).mono ?_
          rintro x wk7 ⟨rfl, hw⟩
          obtain ⟨Y4, hY4⟩ : ∃ Y, Y = (nameOkL e.dst.data.toList) := ⟨_, rfl⟩
          rw [← hY4]
          have HY4 := hide hY4
          clear hY4
          subst wk7
          have hA : Z = Y4 := by rw [unhide HZ]; rw [← unhide HY0]; rw [← unhide HY1]; rw [← unhide HY2]; rw [← unhide HY3]; rw [← unhide HY4]; simp [h0_, h1_, h2_, h3_]
          clear HZ
          subst hA
          have Ac0_7 := (unhide A).cell 0 rfl
          have Ac1_7 := (unhide A).cell 1 rfl
          have Ac2_7 := (unhide A).cell 2 rfl
          have Ac3_7 := (unhide A).cell 3 rfl
          have Ac4_7 := (unhide A).cell 4 rfl
          have Ac5_7 := (unhide A).cell 5 rfl
          have Ac6_7 := (unhide A).cell 6 rfl
          have Ac7_7 := (unhide A).cell 7 rfl
          go_wp2
          go_ret
          exact ⟨rfl, unhide BB⟩
set_option maxHeartbeats 4000000 in
set_option maxRecDepth 100000 in
theorem okS7 (e : Ed) (a : Option Addr) (c B : Nat) (w : World) (hk : e.kind = 7) (hs : SmallEd 1048576 e) (hr : OwnR B w (.slice a e.set.length c) e.set) :
    Calls Tryd.prog 10 #[.agg #[.int .i64 e.kind, .string e.box, .string e.dst, .slice a e.set.length c, .int .i64 e.how, .int .i64 e.bits, .int .i64 e.since, .string e.text]] w fun x w' => x = .returned (.bool (((((nameOkL e.box.data.toList && ((((decide ((0 : Int) = e.how) && decide ((0 : Int) = e.bits)) && decide ((0 : Int) = e.since)) && ([] == e.text.toList)))) && okS e.set) && flOk e.bits) && nameOkL e.dst.data.toList))) ∧ Below w.heap.size w w' := by
  obtain ⟨Z, hZ⟩ : ∃ Z, Z = (((((nameOkL e.box.data.toList && ((((decide ((0 : Int) = e.how) && decide ((0 : Int) = e.bits)) && decide ((0 : Int) = e.since)) && ([] == e.text.toList)))) && okS e.set) && flOk e.bits) && nameOkL e.dst.data.toList)) := ⟨_, rfl⟩
  rw [← hZ, hk]
  have SM := hide hs
  have RS := hide hr
  have HZ := hide hZ
  clear hs hr hZ hk
  have BB := hide (Below.refl w.heap.size w)
  obtain ⟨wk1, hA⟩ : ∃ X, X = w.alloc (.cells ([.int .i64 7, .string e.box, .string e.dst, .slice a e.set.length c, .int .i64 e.how, .int .i64 e.bits, .int .i64 e.since, .string e.text] : List Value).toArray 30) := ⟨_, rfl⟩
  have Ax : HasObj wk1 w.heap.size 30 [.int .i64 7, .string e.box, .string e.dst, .slice a e.set.length c, .int .i64 e.how, .int .i64 e.bits, .int .i64 e.since, .string e.text] := by rw [hA]; exact HasObj.new _ _ _
  have hbn : Below w.heap.size w wk1 := by rw [hA]; exact (Below.refl _ _).alloc (Nat.le_refl _) _
  have loA : w.heap.size ≤ w.heap.size := (unhide BB).size
  have EA := hA.symm
  clear hA
  have RS_ := hide ((unhide RS).up hbn)
  clear RS
  have RS := RS_
  clear RS_
  have sz1 := hide (hbn.size)
  have BB_ := hide (below_y (unhide BB) hbn)
  clear BB
  have BB := BB_
  clear BB_
  clear hbn
  have A := hide Ax
  clear Ax
  have Ac0_1 := (unhide A).cell 0 rfl
  have Ac1_1 := (unhide A).cell 1 rfl
  have Ac2_1 := (unhide A).cell 2 rfl
  have Ac3_1 := (unhide A).cell 3 rfl
  have Ac4_1 := (unhide A).cell 4 rfl
  have Ac5_1 := (unhide A).cell 5 rfl
  have Ac6_1 := (unhide A).cell 6 rfl
  have Ac7_1 := (unhide A).cell 7 rfl
  go_enter Tryd.func10, Tryd.ntmps10
  go_wp2_with fail
  clear Ac0_1 Ac1_1 Ac2_1 Ac3_1 Ac4_1 Ac5_1 Ac6_1 Ac7_1 EA
  refine (in_any 7 1 8 _).mono ?_
  rintro x wk2 ⟨rfl, hw⟩
  subst wk2
  rw [show inI 7 1 8 = true from rfl]
  have Ac0_2 := (unhide A).cell 0 rfl
  have Ac1_2 := (unhide A).cell 1 rfl
  have Ac2_2 := (unhide A).cell 2 rfl
  have Ac3_2 := (unhide A).cell 3 rfl
  have Ac4_2 := (unhide A).cell 4 rfl
  have Ac5_2 := (unhide A).cell 5 rfl
  have Ac6_2 := (unhide A).cell 6 rfl
  have Ac7_2 := (unhide A).cell 7 rfl
  go_wp2_with fail
  clear Ac0_2 Ac1_2 Ac2_2 Ac3_2 Ac4_2 Ac5_2 Ac6_2 Ac7_2
  refine (spec_BoxName_any e.box _ (unhide SM).box).mono ?_
  rintro x wk3 ⟨rfl, hw⟩
  obtain ⟨Y0, hY0⟩ : ∃ Y, Y = (nameOkL e.box.data.toList) := ⟨_, rfl⟩
  rw [← hY0]
  have HY0 := hide hY0
  clear hY0
  subst wk3
  cases h0_ : Y0 with
  | false =>
    have hA : Z = false := by rw [unhide HZ]; rw [← unhide HY0]; simp [h0_]
    clear HZ
    subst hA
    have Ac0_3 := (unhide A).cell 0 rfl
    have Ac1_3 := (unhide A).cell 1 rfl
    have Ac2_3 := (unhide A).cell 2 rfl
    have Ac3_3 := (unhide A).cell 3 rfl
    have Ac4_3 := (unhide A).cell 4 rfl
    have Ac5_3 := (unhide A).cell 5 rfl
    have Ac6_3 := (unhide A).cell 6 rfl
    have Ac7_3 := (unhide A).cell 7 rfl
    skip
    go_wp2
    go_ret
    exact ⟨rfl, unhide BB⟩
  | true =>
    have Ac0_3 := (unhide A).cell 0 rfl
    have Ac1_3 := (unhide A).cell 1 rfl
    have Ac2_3 := (unhide A).cell 2 rfl
    have Ac3_3 := (unhide A).cell 3 rfl
    have Ac4_3 := (unhide A).cell 4 rfl
    have Ac5_3 := (unhide A).cell 5 rfl
    have Ac6_3 := (unhide A).cell 6 rfl
    have Ac7_3 := (unhide A).cell 7 rfl
    go_wp2_with fail
    clear Ac0_3 Ac1_3 Ac2_3 Ac3_3 Ac4_3 Ac5_3 Ac6_3 Ac7_3
    refine (uses7 e.box e.dst e.text e.set.length e.how e.bits e.since a c _ (unhide SM).set).mono ?_
    rintro x wk4 ⟨rfl, hb⟩
    obtain ⟨Y1, hY1⟩ : ∃ Y, Y = (((((decide ((0 : Int) = e.how) && decide ((0 : Int) = e.bits)) && decide ((0 : Int) = e.since)) && ([] == e.text.toList)))) := ⟨_, rfl⟩
    rw [← hY1]
    have HY1 := hide hY1
    clear hY1
    have A_ := hide ((unhide A).ups hb)
    clear A
    have A := A_
    clear A_
    have RS_ := hide ((unhide RS).up hb)
    clear RS
    have RS := RS_
    clear RS_
    have sz2 := hide (hb.size)
    have BB_ := hide (below_y (unhide BB) hb)
    clear BB
    have BB := BB_
    clear BB_
    clear hb
    cases h1_ : Y1 with
    | false =>
      have hA : Z = false := by rw [unhide HZ]; rw [← unhide HY0]; rw [← unhide HY1]; simp [h0_, h1_]
      clear HZ
      subst hA
      have Ac0_4 := (unhide A).cell 0 rfl
      have Ac1_4 := (unhide A).cell 1 rfl
      have Ac2_4 := (unhide A).cell 2 rfl
      have Ac3_4 := (unhide A).cell 3 rfl
      have Ac4_4 := (unhide A).cell 4 rfl
      have Ac5_4 := (unhide A).cell 5 rfl
      have Ac6_4 := (unhide A).cell 6 rfl
      have Ac7_4 := (unhide A).cell 7 rfl
      skip
      go_wp2
      go_ret
      exact ⟨rfl, unhide BB⟩
    | true =>
      have Ac0_4 := (unhide A).cell 0 rfl
      have Ac1_4 := (unhide A).cell 1 rfl
      have Ac2_4 := (unhide A).cell 2 rfl
      have Ac3_4 := (unhide A).cell 3 rfl
      have Ac4_4 := (unhide A).cell 4 rfl
      have Ac5_4 := (unhide A).cell 5 rfl
      have Ac6_4 := (unhide A).cell 6 rfl
      have Ac7_4 := (unhide A).cell 7 rfl
      go_wp2_with fail
      clear Ac0_4 Ac1_4 Ac2_4 Ac3_4 Ac4_4 Ac5_4 Ac6_4 Ac7_4
      refine (setOkE e.set _ _ _ (unhide SM).set (unhide RS)).mono ?_
      rintro x wk5 ⟨rfl, hb⟩
      obtain ⟨Y2, hY2⟩ : ∃ Y, Y = (okS e.set) := ⟨_, rfl⟩
      rw [← hY2]
      have HY2 := hide hY2
      clear hY2
      have A_ := hide ((unhide A).ups hb)
      clear A
      have A := A_
      clear A_
      have RS_ := hide ((unhide RS).up hb)
      clear RS
      have RS := RS_
      clear RS_
      have sz3 := hide (hb.size)
      have BB_ := hide (below_y (unhide BB) hb)
      clear BB
      have BB := BB_
      clear BB_
      clear hb
      cases h2_ : Y2 with
      | false =>
        have hA : Z = false := by rw [unhide HZ]; rw [← unhide HY0]; rw [← unhide HY1]; rw [← unhide HY2]; simp [h0_, h1_, h2_]
        clear HZ
        subst hA
        have Ac0_5 := (unhide A).cell 0 rfl
        have Ac1_5 := (unhide A).cell 1 rfl
        have Ac2_5 := (unhide A).cell 2 rfl
        have Ac3_5 := (unhide A).cell 3 rfl
        have Ac4_5 := (unhide A).cell 4 rfl
        have Ac5_5 := (unhide A).cell 5 rfl
        have Ac6_5 := (unhide A).cell 6 rfl
        have Ac7_5 := (unhide A).cell 7 rfl
        skip
        go_wp2
        go_ret
        exact ⟨rfl, unhide BB⟩
      | true =>
        have Ac0_5 := (unhide A).cell 0 rfl
        have Ac1_5 := (unhide A).cell 1 rfl
        have Ac2_5 := (unhide A).cell 2 rfl
        have Ac3_5 := (unhide A).cell 3 rfl
        have Ac4_5 := (unhide A).cell 4 rfl
        have Ac5_5 := (unhide A).cell 5 rfl
        have Ac6_5 := (unhide A).cell 6 rfl
        have Ac7_5 := (unhide A).cell 7 rfl
        go_wp2_with fail
        clear Ac0_5 Ac1_5 Ac2_5 Ac3_5 Ac4_5 Ac5_5 Ac6_5 Ac7_5
        refine (spec_FlagsOk_any e.bits _).mono ?_
        rintro x wk6 ⟨rfl, hw⟩
        obtain ⟨Y3, hY3⟩ : ∃ Y, Y = (flOk e.bits) := ⟨_, rfl⟩
        rw [← hY3]
        have HY3 := hide hY3
        clear hY3
        subst wk6
        cases h3_ : Y3 with
        | false =>
          have hA : Z = false := by rw [unhide HZ]; rw [← unhide HY0]; rw [← unhide HY1]; rw [← unhide HY2]; rw [← unhide HY3]; simp [h0_, h1_, h2_, h3_]
          clear HZ
          subst hA
          have Ac0_6 := (unhide A).cell 0 rfl
          have Ac1_6 := (unhide A).cell 1 rfl
          have Ac2_6 := (unhide A).cell 2 rfl
          have Ac3_6 := (unhide A).cell 3 rfl
          have Ac4_6 := (unhide A).cell 4 rfl
          have Ac5_6 := (unhide A).cell 5 rfl
          have Ac6_6 := (unhide A).cell 6 rfl
          have Ac7_6 := (unhide A).cell 7 rfl
          skip
          go_wp2
          go_ret
          exact ⟨rfl, unhide BB⟩
        | true =>
          have Ac0_6 := (unhide A).cell 0 rfl
          have Ac1_6 := (unhide A).cell 1 rfl
          have Ac2_6 := (unhide A).cell 2 rfl
          have Ac3_6 := (unhide A).cell 3 rfl
          have Ac4_6 := (unhide A).cell 4 rfl
          have Ac5_6 := (unhide A).cell 5 rfl
          have Ac6_6 := (unhide A).cell 6 rfl
          have Ac7_6 := (unhide A).cell 7 rfl
          go_wp2_with fail
          clear Ac0_6 Ac1_6 Ac2_6 Ac3_6 Ac4_6 Ac5_6 Ac6_6 Ac7_6
          refine (spec_BoxName_any e.dst _ (unhide SM).dst).mono ?_
          rintro x wk7 ⟨rfl, hw⟩
          obtain ⟨Y4, hY4⟩ : ∃ Y, Y = (nameOkL e.dst.data.toList) := ⟨_, rfl⟩
          rw [← hY4]
          have HY4 := hide hY4
          clear hY4
          subst wk7
          have hA : Z = Y4 := by rw [unhide HZ]; rw [← unhide HY0]; rw [← unhide HY1]; rw [← unhide HY2]; rw [← unhide HY3]; rw [← unhide HY4]; simp [h0_, h1_, h2_, h3_]
          clear HZ
          subst hA
          have Ac0_7 := (unhide A).cell 0 rfl
          have Ac1_7 := (unhide A).cell 1 rfl
          have Ac2_7 := (unhide A).cell 2 rfl
          have Ac3_7 := (unhide A).cell 3 rfl
          have Ac4_7 := (unhide A).cell 4 rfl
          have Ac5_7 := (unhide A).cell 5 rfl
          have Ac6_7 := (unhide A).cell 6 rfl
          have Ac7_7 := (unhide A).cell 7 rfl
          go_wp2
          go_ret
          exact ⟨rfl, unhide BB⟩
set_option maxHeartbeats 4000000 in
set_option maxRecDepth 100000 in
theorem okS8 (e : Ed) (a : Option Addr) (c B : Nat) (w : World) (hk : e.kind = 8) (hs : SmallEd 1048576 e) (hr : OwnR B w (.slice a e.set.length c) e.set) :
    Calls Tryd.prog 10 #[.agg #[.int .i64 e.kind, .string e.box, .string e.dst, .slice a e.set.length c, .int .i64 e.how, .int .i64 e.bits, .int .i64 e.since, .string e.text]] w fun x w' => x = .returned (.bool (((((nameOkL e.box.data.toList && (((((([] == e.dst.toList) && decide (e.set.length = 0)) && decide ((0 : Int) = e.how)) && decide ((0 : Int) = e.bits)) && ([] == e.text.toList)))) && okS e.set) && flOk e.bits) && inI e.since 0 100000))) ∧ Below w.heap.size w w' := by
  obtain ⟨Z, hZ⟩ : ∃ Z, Z = (((((nameOkL e.box.data.toList && (((((([] == e.dst.toList) && decide (e.set.length = 0)) && decide ((0 : Int) = e.how)) && decide ((0 : Int) = e.bits)) && ([] == e.text.toList)))) && okS e.set) && flOk e.bits) && inI e.since 0 100000)) := ⟨_, rfl⟩
  rw [← hZ, hk]
  have SM := hide hs
  have RS := hide hr
  have HZ := hide hZ
  clear hs hr hZ hk
  have BB := hide (Below.refl w.heap.size w)
  obtain ⟨wk1, hA⟩ : ∃ X, X = w.alloc (.cells ([.int .i64 8, .string e.box, .string e.dst, .slice a e.set.length c, .int .i64 e.how, .int .i64 e.bits, .int .i64 e.since, .string e.text] : List Value).toArray 30) := ⟨_, rfl⟩
  have Ax : HasObj wk1 w.heap.size 30 [.int .i64 8, .string e.box, .string e.dst, .slice a e.set.length c, .int .i64 e.how, .int .i64 e.bits, .int .i64 e.since, .string e.text] := by rw [hA]; exact HasObj.new _ _ _
  have hbn : Below w.heap.size w wk1 := by rw [hA]; exact (Below.refl _ _).alloc (Nat.le_refl _) _
  have loA : w.heap.size ≤ w.heap.size := (unhide BB).size
  have EA := hA.symm
  clear hA
  have RS_ := hide ((unhide RS).up hbn)
  clear RS
  have RS := RS_
  clear RS_
  have sz1 := hide (hbn.size)
  have BB_ := hide (below_y (unhide BB) hbn)
  clear BB
  have BB := BB_
  clear BB_
  clear hbn
  have A := hide Ax
  clear Ax
  have Ac0_1 := (unhide A).cell 0 rfl
  have Ac1_1 := (unhide A).cell 1 rfl
  have Ac2_1 := (unhide A).cell 2 rfl
  have Ac3_1 := (unhide A).cell 3 rfl
  have Ac4_1 := (unhide A).cell 4 rfl
  have Ac5_1 := (unhide A).cell 5 rfl
  have Ac6_1 := (unhide A).cell 6 rfl
  have Ac7_1 := (unhide A).cell 7 rfl
  go_enter Tryd.func10, Tryd.ntmps10
  go_wp2_with fail
  clear Ac0_1 Ac1_1 Ac2_1 Ac3_1 Ac4_1 Ac5_1 Ac6_1 Ac7_1 EA
  refine (in_any 8 1 8 _).mono ?_
  rintro x wk2 ⟨rfl, hw⟩
  subst wk2
  rw [show inI 8 1 8 = true from rfl]
  have Ac0_2 := (unhide A).cell 0 rfl
  have Ac1_2 := (unhide A).cell 1 rfl
  have Ac2_2 := (unhide A).cell 2 rfl
  have Ac3_2 := (unhide A).cell 3 rfl
  have Ac4_2 := (unhide A).cell 4 rfl
  have Ac5_2 := (unhide A).cell 5 rfl
  have Ac6_2 := (unhide A).cell 6 rfl
  have Ac7_2 := (unhide A).cell 7 rfl
  go_wp2_with fail
  clear Ac0_2 Ac1_2 Ac2_2 Ac3_2 Ac4_2 Ac5_2 Ac6_2 Ac7_2
  refine (spec_BoxName_any e.box _ (unhide SM).box).mono ?_
  rintro x wk3 ⟨rfl, hw⟩
  obtain ⟨Y0, hY0⟩ : ∃ Y, Y = (nameOkL e.box.data.toList) := ⟨_, rfl⟩
  rw [← hY0]
  have HY0 := hide hY0
  clear hY0
  subst wk3
  cases h0_ : Y0 with
  | false =>
    have hA : Z = false := by rw [unhide HZ]; rw [← unhide HY0]; simp [h0_]
    clear HZ
    subst hA
    have Ac0_3 := (unhide A).cell 0 rfl
    have Ac1_3 := (unhide A).cell 1 rfl
    have Ac2_3 := (unhide A).cell 2 rfl
    have Ac3_3 := (unhide A).cell 3 rfl
    have Ac4_3 := (unhide A).cell 4 rfl
    have Ac5_3 := (unhide A).cell 5 rfl
    have Ac6_3 := (unhide A).cell 6 rfl
    have Ac7_3 := (unhide A).cell 7 rfl
    skip
    go_wp2
    go_ret
    exact ⟨rfl, unhide BB⟩
  | true =>
    have Ac0_3 := (unhide A).cell 0 rfl
    have Ac1_3 := (unhide A).cell 1 rfl
    have Ac2_3 := (unhide A).cell 2 rfl
    have Ac3_3 := (unhide A).cell 3 rfl
    have Ac4_3 := (unhide A).cell 4 rfl
    have Ac5_3 := (unhide A).cell 5 rfl
    have Ac6_3 := (unhide A).cell 6 rfl
    have Ac7_3 := (unhide A).cell 7 rfl
    go_wp2_with fail
    clear Ac0_3 Ac1_3 Ac2_3 Ac3_3 Ac4_3 Ac5_3 Ac6_3 Ac7_3
    refine (uses8 e.box e.dst e.text e.set.length e.how e.bits e.since a c _ (unhide SM).set).mono ?_
    rintro x wk4 ⟨rfl, hb⟩
    obtain ⟨Y1, hY1⟩ : ∃ Y, Y = ((((((([] == e.dst.toList) && decide (e.set.length = 0)) && decide ((0 : Int) = e.how)) && decide ((0 : Int) = e.bits)) && ([] == e.text.toList)))) := ⟨_, rfl⟩
    rw [← hY1]
    have HY1 := hide hY1
    clear hY1
    have A_ := hide ((unhide A).ups hb)
    clear A
    have A := A_
    clear A_
    have RS_ := hide ((unhide RS).up hb)
    clear RS
    have RS := RS_
    clear RS_
    have sz2 := hide (hb.size)
    have BB_ := hide (below_y (unhide BB) hb)
    clear BB
    have BB := BB_
    clear BB_
    clear hb
    cases h1_ : Y1 with
    | false =>
      have hA : Z = false := by rw [unhide HZ]; rw [← unhide HY0]; rw [← unhide HY1]; simp [h0_, h1_]
      clear HZ
      subst hA
      have Ac0_4 := (unhide A).cell 0 rfl
      have Ac1_4 := (unhide A).cell 1 rfl
      have Ac2_4 := (unhide A).cell 2 rfl
      have Ac3_4 := (unhide A).cell 3 rfl
      have Ac4_4 := (unhide A).cell 4 rfl
      have Ac5_4 := (unhide A).cell 5 rfl
      have Ac6_4 := (unhide A).cell 6 rfl
      have Ac7_4 := (unhide A).cell 7 rfl
      skip
      go_wp2
      go_ret
      exact ⟨rfl, unhide BB⟩
    | true =>
      have Ac0_4 := (unhide A).cell 0 rfl
      have Ac1_4 := (unhide A).cell 1 rfl
      have Ac2_4 := (unhide A).cell 2 rfl
      have Ac3_4 := (unhide A).cell 3 rfl
      have Ac4_4 := (unhide A).cell 4 rfl
      have Ac5_4 := (unhide A).cell 5 rfl
      have Ac6_4 := (unhide A).cell 6 rfl
      have Ac7_4 := (unhide A).cell 7 rfl
      go_wp2_with fail
      clear Ac0_4 Ac1_4 Ac2_4 Ac3_4 Ac4_4 Ac5_4 Ac6_4 Ac7_4
      refine (setOkE e.set _ _ _ (unhide SM).set (unhide RS)).mono ?_
      rintro x wk5 ⟨rfl, hb⟩
      obtain ⟨Y2, hY2⟩ : ∃ Y, Y = (okS e.set) := ⟨_, rfl⟩
      rw [← hY2]
      have HY2 := hide hY2
      clear hY2
      have A_ := hide ((unhide A).ups hb)
      clear A
      have A := A_
      clear A_
      have RS_ := hide ((unhide RS).up hb)
      clear RS
      have RS := RS_
      clear RS_
      have sz3 := hide (hb.size)
      have BB_ := hide (below_y (unhide BB) hb)
      clear BB
      have BB := BB_
      clear BB_
      clear hb
      cases h2_ : Y2 with
      | false =>
        have hA : Z = false := by rw [unhide HZ]; rw [← unhide HY0]; rw [← unhide HY1]; rw [← unhide HY2]; simp [h0_, h1_, h2_]
        clear HZ
        subst hA
        have Ac0_5 := (unhide A).cell 0 rfl
        have Ac1_5 := (unhide A).cell 1 rfl
        have Ac2_5 := (unhide A).cell 2 rfl
        have Ac3_5 := (unhide A).cell 3 rfl
        have Ac4_5 := (unhide A).cell 4 rfl
        have Ac5_5 := (unhide A).cell 5 rfl
        have Ac6_5 := (unhide A).cell 6 rfl
        have Ac7_5 := (unhide A).cell 7 rfl
        skip
        go_wp2
        go_ret
        exact ⟨rfl, unhide BB⟩
      | true =>
        have Ac0_5 := (unhide A).cell 0 rfl
        have Ac1_5 := (unhide A).cell 1 rfl
        have Ac2_5 := (unhide A).cell 2 rfl
        have Ac3_5 := (unhide A).cell 3 rfl
        have Ac4_5 := (unhide A).cell 4 rfl
        have Ac5_5 := (unhide A).cell 5 rfl
        have Ac6_5 := (unhide A).cell 6 rfl
        have Ac7_5 := (unhide A).cell 7 rfl
        go_wp2_with fail
        clear Ac0_5 Ac1_5 Ac2_5 Ac3_5 Ac4_5 Ac5_5 Ac6_5 Ac7_5
        refine (spec_FlagsOk_any e.bits _).mono ?_
        rintro x wk6 ⟨rfl, hw⟩
        obtain ⟨Y3, hY3⟩ : ∃ Y, Y = (flOk e.bits) := ⟨_, rfl⟩
        rw [← hY3]
        have HY3 := hide hY3
        clear hY3
        subst wk6
        cases h3_ : Y3 with
        | false =>
          have hA : Z = false := by rw [unhide HZ]; rw [← unhide HY0]; rw [← unhide HY1]; rw [← unhide HY2]; rw [← unhide HY3]; simp [h0_, h1_, h2_, h3_]
          clear HZ
          subst hA
          have Ac0_6 := (unhide A).cell 0 rfl
          have Ac1_6 := (unhide A).cell 1 rfl
          have Ac2_6 := (unhide A).cell 2 rfl
          have Ac3_6 := (unhide A).cell 3 rfl
          have Ac4_6 := (unhide A).cell 4 rfl
          have Ac5_6 := (unhide A).cell 5 rfl
          have Ac6_6 := (unhide A).cell 6 rfl
          have Ac7_6 := (unhide A).cell 7 rfl
          skip
          go_wp2
          go_ret
          exact ⟨rfl, unhide BB⟩
        | true =>
          have Ac0_6 := (unhide A).cell 0 rfl
          have Ac1_6 := (unhide A).cell 1 rfl
          have Ac2_6 := (unhide A).cell 2 rfl
          have Ac3_6 := (unhide A).cell 3 rfl
          have Ac4_6 := (unhide A).cell 4 rfl
          have Ac5_6 := (unhide A).cell 5 rfl
          have Ac6_6 := (unhide A).cell 6 rfl
          have Ac7_6 := (unhide A).cell 7 rfl
          go_wp2_with fail
          clear Ac0_6 Ac1_6 Ac2_6 Ac3_6 Ac4_6 Ac5_6 Ac6_6 Ac7_6
          refine (in_any e.since 0 100000 _).mono ?_
          rintro x wk7 ⟨rfl, hw⟩
          obtain ⟨Y4, hY4⟩ : ∃ Y, Y = (inI e.since 0 100000) := ⟨_, rfl⟩
          rw [← hY4]
          have HY4 := hide hY4
          clear hY4
          subst wk7
          have hA : Z = Y4 := by rw [unhide HZ]; rw [← unhide HY0]; rw [← unhide HY1]; rw [← unhide HY2]; rw [← unhide HY3]; rw [← unhide HY4]; simp [h0_, h1_, h2_, h3_]
          clear HZ
          subst hA
          have Ac0_7 := (unhide A).cell 0 rfl
          have Ac1_7 := (unhide A).cell 1 rfl
          have Ac2_7 := (unhide A).cell 2 rfl
          have Ac3_7 := (unhide A).cell 3 rfl
          have Ac4_7 := (unhide A).cell 4 rfl
          have Ac5_7 := (unhide A).cell 5 rfl
          have Ac6_7 := (unhide A).cell 6 rfl
          have Ac7_7 := (unhide A).cell 7 rfl
          go_wp2
          go_ret
          exact ⟨rfl, unhide BB⟩
set_option maxHeartbeats 4000000 in
set_option maxRecDepth 100000 in
theorem okS0 (e : Ed) (a : Option Addr) (c : Nat) (w : World) (hk : inI e.kind 1 8 = false) :
    Calls Tryd.prog 10 #[.agg #[.int .i64 e.kind, .string e.box, .string e.dst, .slice a e.set.length c, .int .i64 e.how, .int .i64 e.bits, .int .i64 e.since, .string e.text]] w fun x w' => x = .returned (.bool false) ∧ Below w.heap.size w w' := by
  have BB := hide (Below.refl w.heap.size w)
  obtain ⟨wk1, hA⟩ : ∃ X, X = w.alloc (.cells ([.int .i64 e.kind, .string e.box, .string e.dst, .slice a e.set.length c, .int .i64 e.how, .int .i64 e.bits, .int .i64 e.since, .string e.text] : List Value).toArray 30) := ⟨_, rfl⟩
  have Ax : HasObj wk1 w.heap.size 30 [.int .i64 e.kind, .string e.box, .string e.dst, .slice a e.set.length c, .int .i64 e.how, .int .i64 e.bits, .int .i64 e.since, .string e.text] := by rw [hA]; exact HasObj.new _ _ _
  have hbn : Below w.heap.size w wk1 := by rw [hA]; exact (Below.refl _ _).alloc (Nat.le_refl _) _
  have loA : w.heap.size ≤ w.heap.size := (unhide BB).size
  have EA := hA.symm
  clear hA
  have sz1 := hide (hbn.size)
  have BB_ := hide (below_y (unhide BB) hbn)
  clear BB
  have BB := BB_
  clear BB_
  clear hbn
  have A := hide Ax
  clear Ax
  have Ac0_1 := (unhide A).cell 0 rfl
  have Ac1_1 := (unhide A).cell 1 rfl
  have Ac2_1 := (unhide A).cell 2 rfl
  have Ac3_1 := (unhide A).cell 3 rfl
  have Ac4_1 := (unhide A).cell 4 rfl
  have Ac5_1 := (unhide A).cell 5 rfl
  have Ac6_1 := (unhide A).cell 6 rfl
  have Ac7_1 := (unhide A).cell 7 rfl
  go_enter Tryd.func10, Tryd.ntmps10
  go_wp2_with fail
  clear Ac0_1 Ac1_1 Ac2_1 Ac3_1 Ac4_1 Ac5_1 Ac6_1 Ac7_1 EA
  refine (in_any e.kind 1 8 _).mono ?_
  rintro x wk2 ⟨rfl, hw⟩
  subst wk2
  rw [hk]
  have Ac0_2 := (unhide A).cell 0 rfl
  have Ac1_2 := (unhide A).cell 1 rfl
  have Ac2_2 := (unhide A).cell 2 rfl
  have Ac3_2 := (unhide A).cell 3 rfl
  have Ac4_2 := (unhide A).cell 4 rfl
  have Ac5_2 := (unhide A).cell 5 rfl
  have Ac6_2 := (unhide A).cell 6 rfl
  have Ac7_2 := (unhide A).cell 7 rfl
  go_wp2
  go_ret
  exact ⟨rfl, unhide BB⟩
end Go.Proofs.YtecognggnbopaacDoor
