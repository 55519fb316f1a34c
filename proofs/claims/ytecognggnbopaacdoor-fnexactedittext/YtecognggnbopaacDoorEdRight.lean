/- The program's deeds: what they use is right. Made by gen_edit.py. -/
import Derived.Test.YtecognggnbopaacDoorEdVal
import Derived.Test.YtecognggnbopaacDoorBoxNameI
import Derived.Test.YtecognggnbopaacDoorMailI
import Derived.Test.YtecognggnbopaacDoorImplFlag
import Derived.Test.YtecognggnbopaacDoorImplOk
namespace Go.Proofs.YtecognggnbopaacDoor
open Go.RowKit Go.ChangeShapes Go.WideShapes Go.ChangeAt Go.Deep
open Plain
set_option linter.unusedVariables false
set_option linter.unusedSimpArgs false

theorem howE_any (how : Int) (w : World) : Calls Tryd.prog 87 #[.int .i64 how] w fun e w' => e = .returned (.bool (inI how 1 3)) ∧ w' = w := by
  by_cases h1 : how = 1
  · subst h1
    rw [show inI 1 1 3 = true from rfl]
    go_enter Tryd.func87, Tryd.ntmps87
    go_wp2
    go_ret
    exact ⟨rfl, rfl⟩
  · have d1 : (how == 1) = false := beq_eq_false_iff_ne.2 h1
    by_cases h2 : how = 2
    · subst h2
      rw [show inI 2 1 3 = true from rfl]
      go_enter Tryd.func87, Tryd.ntmps87
      go_wp2
      go_ret
      exact ⟨rfl, rfl⟩
    · have d2 : (how == 2) = false := beq_eq_false_iff_ne.2 h2
      by_cases h3 : how = 3
      · subst h3
        rw [show inI 3 1 3 = true from rfl]
        go_enter Tryd.func87, Tryd.ntmps87
        go_wp2
        go_ret
        exact ⟨rfl, rfl⟩
      · have d3 : (how == 3) = false := beq_eq_false_iff_ne.2 h3
        have e : inI how 1 3 = false := by
          cases hq : inI how 1 3 with
          | false => rfl
          | true => have := inI_iff.1 hq; omega
        rw [e]
        clear h1 h2 h3 e
        go_enter Tryd.func87, Tryd.ntmps87
        go_wp2
        go_ret
        exact ⟨rfl, rfl⟩
set_option maxHeartbeats 4000000 in
set_option maxRecDepth 100000 in
theorem right1 (e : Ed) (a : Option Addr) (c : Nat) (w : World) (hs : SmallEd 1048576 e) (hr : ReadO w (.slice a e.set.length c) e.set) :
    Calls Tryd.prog 78 #[.agg #[.string e.box]] w fun x w' => x = .returned (.bool (true)) ∧ Below w.heap.size w w' := by
  have SM := hide hs
  have RS := hide hr
  clear hs hr
  have BB := hide (Below.refl w.heap.size w)
  obtain ⟨wr1, hA⟩ : ∃ X, X = w.alloc (.cells ([.string e.box] : List Value).toArray 63) := ⟨_, rfl⟩
  have Ax : HasObj wr1 w.heap.size 63 [.string e.box] := by rw [hA]; exact HasObj.new _ _ _
  have hbn : Below w.heap.size w wr1 := by rw [hA]; exact (Below.refl _ _).alloc (Nat.le_refl _) _
  have loA : w.heap.size ≤ w.heap.size := (unhide BB).size
  have EA := hA.symm
  clear hA
  have RS_ := hide ((unhide RS).up hbn)
  clear RS
  have RS := RS_
  clear RS_
  have sz1 := hide (hbn.size)
  have BB_ := hide (below_y (unhide BB) hbn)
  clear BB
  have BB := BB_
  clear BB_
  clear hbn
  have A := hide Ax
  clear Ax
  have Ac0_1 := (unhide A).cell 0 rfl
  go_enter Tryd.func78, Tryd.ntmps78
  go_wp2
  go_ret
  exact ⟨rfl, unhide BB⟩
set_option maxHeartbeats 4000000 in
set_option maxRecDepth 100000 in
theorem right2 (e : Ed) (a : Option Addr) (c : Nat) (w : World) (hs : SmallEd 1048576 e) (hr : ReadO w (.slice a e.set.length c) e.set) :
    Calls Tryd.prog 80 #[.agg #[.string e.box]] w fun x w' => x = .returned (.bool (true)) ∧ Below w.heap.size w w' := by
  have SM := hide hs
  have RS := hide hr
  clear hs hr
  have BB := hide (Below.refl w.heap.size w)
  obtain ⟨wr1, hA⟩ : ∃ X, X = w.alloc (.cells ([.string e.box] : List Value).toArray 64) := ⟨_, rfl⟩
  have Ax : HasObj wr1 w.heap.size 64 [.string e.box] := by rw [hA]; exact HasObj.new _ _ _
  have hbn : Below w.heap.size w wr1 := by rw [hA]; exact (Below.refl _ _).alloc (Nat.le_refl _) _
  have loA : w.heap.size ≤ w.heap.size := (unhide BB).size
  have EA := hA.symm
  clear hA
  have RS_ := hide ((unhide RS).up hbn)
  clear RS
  have RS := RS_
  clear RS_
  have sz1 := hide (hbn.size)
  have BB_ := hide (below_y (unhide BB) hbn)
  clear BB
  have BB := BB_
  clear BB_
  clear hbn
  have A := hide Ax
  clear Ax
  have Ac0_1 := (unhide A).cell 0 rfl
  go_enter Tryd.func80, Tryd.ntmps80
  go_wp2
  go_ret
  exact ⟨rfl, unhide BB⟩
set_option maxHeartbeats 4000000 in
set_option maxRecDepth 100000 in
theorem right3 (e : Ed) (a : Option Addr) (c : Nat) (w : World) (hs : SmallEd 1048576 e) (hr : ReadO w (.slice a e.set.length c) e.set) :
    Calls Tryd.prog 82 #[.agg #[.string e.box, .int .i64 e.bits, .string e.text]] w fun x w' => x = .returned (.bool ((flOk e.bits && mailOkL e.text.data.toList))) ∧ Below w.heap.size w w' := by
  have SM := hide hs
  have RS := hide hr
  clear hs hr
  have BB := hide (Below.refl w.heap.size w)
  obtain ⟨wr1, hA⟩ : ∃ X, X = w.alloc (.cells ([.string e.box, .int .i64 e.bits, .string e.text] : List Value).toArray 66) := ⟨_, rfl⟩
  have Ax : HasObj wr1 w.heap.size 66 [.string e.box, .int .i64 e.bits, .string e.text] := by rw [hA]; exact HasObj.new _ _ _
  have hbn : Below w.heap.size w wr1 := by rw [hA]; exact (Below.refl _ _).alloc (Nat.le_refl _) _
  have loA : w.heap.size ≤ w.heap.size := (unhide BB).size
  have EA := hA.symm
  clear hA
  have RS_ := hide ((unhide RS).up hbn)
  clear RS
  have RS := RS_
  clear RS_
  have sz1 := hide (hbn.size)
  have BB_ := hide (below_y (unhide BB) hbn)
  clear BB
  have BB := BB_
  clear BB_
  clear hbn
  have A := hide Ax
  clear Ax
  have Ac0_1 := (unhide A).cell 0 rfl
  have Ac1_1 := (unhide A).cell 1 rfl
  have Ac2_1 := (unhide A).cell 2 rfl
  go_enter Tryd.func82, Tryd.ntmps82
  have Ac0_2 := (unhide A).cell 0 rfl
  have Ac1_2 := (unhide A).cell 1 rfl
  have Ac2_2 := (unhide A).cell 2 rfl
  go_wp2_with fail
  clear Ac0_1 Ac1_1 Ac2_1 Ac0_2 Ac1_2 Ac2_2 EA
  refine (impl_FlagsOk_any e.bits _).mono ?_
  rintro x wr2 ⟨rfl, hw⟩
  subst wr2
  cases h0_ : flOk e.bits with
  | false =>
    have ANS : Hid ((flOk e.bits && mailOkL e.text.data.toList) = false) := by show _ = _; simp [h0_]
    have Ac0_3 := (unhide A).cell 0 rfl
    have Ac1_3 := (unhide A).cell 1 rfl
    have Ac2_3 := (unhide A).cell 2 rfl
    go_wp2
    go_ret
    rw [unhide ANS]
    exact ⟨rfl, unhide BB⟩
  | true =>
    have Ac0_3 := (unhide A).cell 0 rfl
    have Ac1_3 := (unhide A).cell 1 rfl
    have Ac2_3 := (unhide A).cell 2 rfl
    go_wp2_with fail
    clear Ac0_3 Ac1_3 Ac2_3
    refine (impl_MailOk_any e.text _ (unhide SM).text).mono ?_
    rintro e wr3 ⟨rfl, hb⟩
    have A_ := hide ((unhide A).ups hb)
    clear A
    have A := A_
    clear A_
    have RS_ := hide ((unhide RS).up hb)
    clear RS
    have RS := RS_
    clear RS_
    have sz2 := hide (hb.size)
    have BB_ := hide (below_y (unhide BB) hb)
    clear BB
    have BB := BB_
    clear BB_
    clear hb
    have ANS : Hid ((flOk e.bits && mailOkL e.text.data.toList) = mailOkL e.text.data.toList) := by show _ = _; simp [h0_]
    have Ac0_4 := (unhide A).cell 0 rfl
    have Ac1_4 := (unhide A).cell 1 rfl
    have Ac2_4 := (unhide A).cell 2 rfl
    go_wp2
    go_ret
    rw [unhide ANS]
    exact ⟨rfl, unhide BB⟩
set_option maxHeartbeats 4000000 in
set_option maxRecDepth 100000 in
theorem right4 (e : Ed) (a : Option Addr) (c : Nat) (w : World) (hs : SmallEd 1048576 e) (hr : ReadO w (.slice a e.set.length c) e.set) :
    Calls Tryd.prog 86 #[.agg #[.string e.box, .slice a e.set.length c, .int .i64 e.how, .int .i64 e.bits, .int .i64 e.since]] w fun x w' => x = .returned (.bool ((((okS e.set && inI e.how 1 3) && flOk e.bits) && inI e.since (-1) 100000))) ∧ Below w.heap.size w w' := by
  have SM := hide hs
  have RS := hide hr
  clear hs hr
  have BB := hide (Below.refl w.heap.size w)
  obtain ⟨wr1, hA⟩ : ∃ X, X = w.alloc (.cells ([.string e.box, .slice a e.set.length c, .int .i64 e.how, .int .i64 e.bits, .int .i64 e.since] : List Value).toArray 68) := ⟨_, rfl⟩
  have Ax : HasObj wr1 w.heap.size 68 [.string e.box, .slice a e.set.length c, .int .i64 e.how, .int .i64 e.bits, .int .i64 e.since] := by rw [hA]; exact HasObj.new _ _ _
  have hbn : Below w.heap.size w wr1 := by rw [hA]; exact (Below.refl _ _).alloc (Nat.le_refl _) _
  have loA : w.heap.size ≤ w.heap.size := (unhide BB).size
  have EA := hA.symm
  clear hA
  have RS_ := hide ((unhide RS).up hbn)
  clear RS
  have RS := RS_
  clear RS_
  have sz1 := hide (hbn.size)
  have BB_ := hide (below_y (unhide BB) hbn)
  clear BB
  have BB := BB_
  clear BB_
  clear hbn
  have A := hide Ax
  clear Ax
  have Ac0_1 := (unhide A).cell 0 rfl
  have Ac1_1 := (unhide A).cell 1 rfl
  have Ac2_1 := (unhide A).cell 2 rfl
  have Ac3_1 := (unhide A).cell 3 rfl
  have Ac4_1 := (unhide A).cell 4 rfl
  go_enter Tryd.func86, Tryd.ntmps86
  have Ac0_2 := (unhide A).cell 0 rfl
  have Ac1_2 := (unhide A).cell 1 rfl
  have Ac2_2 := (unhide A).cell 2 rfl
  have Ac3_2 := (unhide A).cell 3 rfl
  have Ac4_2 := (unhide A).cell 4 rfl
  go_wp2_with fail
  clear Ac0_1 Ac1_1 Ac2_1 Ac3_1 Ac4_1 Ac0_2 Ac1_2 Ac2_2 Ac3_2 Ac4_2 EA
  refine (impl_SetOk_any e.set _ _ (unhide SM).set (unhide RS)).mono ?_
  rintro e wr2 ⟨rfl, hb⟩
  have A_ := hide ((unhide A).ups hb)
  clear A
  have A := A_
  clear A_
  have RS_ := hide ((unhide RS).up hb)
  clear RS
  have RS := RS_
  clear RS_
  have sz2 := hide (hb.size)
  have BB_ := hide (below_y (unhide BB) hb)
  clear BB
  have BB := BB_
  clear BB_
  clear hb
  cases h0_ : okS e.set with
  | false =>
    have ANS : Hid ((((okS e.set && inI e.how 1 3) && flOk e.bits) && inI e.since (-1) 100000) = false) := by show _ = _; simp [h0_]
    have Ac0_3 := (unhide A).cell 0 rfl
    have Ac1_3 := (unhide A).cell 1 rfl
    have Ac2_3 := (unhide A).cell 2 rfl
    have Ac3_3 := (unhide A).cell 3 rfl
    have Ac4_3 := (unhide A).cell 4 rfl
    go_wp2
    go_ret
    rw [unhide ANS]
    exact ⟨rfl, unhide BB⟩
  | true =>
    have Ac0_3 := (unhide A).cell 0 rfl
    have Ac1_3 := (unhide A).cell 1 rfl
    have Ac2_3 := (unhide A).cell 2 rfl
    have Ac3_3 := (unhide A).cell 3 rfl
    have Ac4_3 := (unhide A).cell 4 rfl
    go_wp2_with fail
    clear Ac0_3 Ac1_3 Ac2_3 Ac3_3 Ac4_3
    refine (howE_any e.how _).mono ?_
    rintro x wr3 ⟨rfl, hw⟩
    subst wr3
    cases h1_ : inI e.how 1 3 with
    | false =>
      have ANS : Hid ((((okS e.set && inI e.how 1 3) && flOk e.bits) && inI e.since (-1) 100000) = false) := by show _ = _; simp [h0_, h1_]
      have Ac0_4 := (unhide A).cell 0 rfl
      have Ac1_4 := (unhide A).cell 1 rfl
      have Ac2_4 := (unhide A).cell 2 rfl
      have Ac3_4 := (unhide A).cell 3 rfl
      have Ac4_4 := (unhide A).cell 4 rfl
      go_wp2
      go_ret
      rw [unhide ANS]
      exact ⟨rfl, unhide BB⟩
    | true =>
      have Ac0_4 := (unhide A).cell 0 rfl
      have Ac1_4 := (unhide A).cell 1 rfl
      have Ac2_4 := (unhide A).cell 2 rfl
      have Ac3_4 := (unhide A).cell 3 rfl
      have Ac4_4 := (unhide A).cell 4 rfl
      go_wp2_with fail
      clear Ac0_4 Ac1_4 Ac2_4 Ac3_4 Ac4_4
      refine (impl_FlagsOk_any e.bits _).mono ?_
      rintro x wr4 ⟨rfl, hw⟩
      subst wr4
      cases h2_ : flOk e.bits with
      | false =>
        have ANS : Hid ((((okS e.set && inI e.how 1 3) && flOk e.bits) && inI e.since (-1) 100000) = false) := by show _ = _; simp [h0_, h1_, h2_]
        have Ac0_5 := (unhide A).cell 0 rfl
        have Ac1_5 := (unhide A).cell 1 rfl
        have Ac2_5 := (unhide A).cell 2 rfl
        have Ac3_5 := (unhide A).cell 3 rfl
        have Ac4_5 := (unhide A).cell 4 rfl
        go_wp2
        go_ret
        rw [unhide ANS]
        exact ⟨rfl, unhide BB⟩
      | true =>
        have Ac0_5 := (unhide A).cell 0 rfl
        have Ac1_5 := (unhide A).cell 1 rfl
        have Ac2_5 := (unhide A).cell 2 rfl
        have Ac3_5 := (unhide A).cell 3 rfl
        have Ac4_5 := (unhide A).cell 4 rfl
        go_wp2_with fail
        clear Ac0_5 Ac1_5 Ac2_5 Ac3_5 Ac4_5
        refine (impl_within_any e.since (-1) 100000 _).mono ?_
        rintro x wr5 ⟨rfl, hw⟩
        subst wr5
        have ANS : Hid ((((okS e.set && inI e.how 1 3) && flOk e.bits) && inI e.since (-1) 100000) = inI e.since (-1) 100000) := by show _ = _; simp [h0_, h1_, h2_]
        have Ac0_6 := (unhide A).cell 0 rfl
        have Ac1_6 := (unhide A).cell 1 rfl
        have Ac2_6 := (unhide A).cell 2 rfl
        have Ac3_6 := (unhide A).cell 3 rfl
        have Ac4_6 := (unhide A).cell 4 rfl
        go_wp2
        go_ret
        rw [unhide ANS]
        exact ⟨rfl, unhide BB⟩
set_option maxHeartbeats 4000000 in
set_option maxRecDepth 100000 in
theorem right5 (e : Ed) (a : Option Addr) (c : Nat) (w : World) (hs : SmallEd 1048576 e) (hr : ReadO w (.slice a e.set.length c) e.set) :
    Calls Tryd.prog 89 #[.agg #[.string e.box, .slice a e.set.length c]] w fun x w' => x = .returned (.bool (okS e.set)) ∧ Below w.heap.size w w' := by
  have SM := hide hs
  have RS := hide hr
  clear hs hr
  have BB := hide (Below.refl w.heap.size w)
  obtain ⟨wr1, hA⟩ : ∃ X, X = w.alloc (.cells ([.string e.box, .slice a e.set.length c] : List Value).toArray 70) := ⟨_, rfl⟩
  have Ax : HasObj wr1 w.heap.size 70 [.string e.box, .slice a e.set.length c] := by rw [hA]; exact HasObj.new _ _ _
  have hbn : Below w.heap.size w wr1 := by rw [hA]; exact (Below.refl _ _).alloc (Nat.le_refl _) _
  have loA : w.heap.size ≤ w.heap.size := (unhide BB).size
  have EA := hA.symm
  clear hA
  have RS_ := hide ((unhide RS).up hbn)
  clear RS
  have RS := RS_
  clear RS_
  have sz1 := hide (hbn.size)
  have BB_ := hide (below_y (unhide BB) hbn)
  clear BB
  have BB := BB_
  clear BB_
  clear hbn
  have A := hide Ax
  clear Ax
  have Ac0_1 := (unhide A).cell 0 rfl
  have Ac1_1 := (unhide A).cell 1 rfl
  go_enter Tryd.func89, Tryd.ntmps89
  have Ac0_2 := (unhide A).cell 0 rfl
  have Ac1_2 := (unhide A).cell 1 rfl
  go_wp2_with fail
  clear Ac0_1 Ac1_1 Ac0_2 Ac1_2 EA
  refine (impl_SetOk_any e.set _ _ (unhide SM).set (unhide RS)).mono ?_
  rintro e wr2 ⟨rfl, hb⟩
  have A_ := hide ((unhide A).ups hb)
  clear A
  have A := A_
  clear A_
  have RS_ := hide ((unhide RS).up hb)
  clear RS
  have RS := RS_
  clear RS_
  have sz2 := hide (hb.size)
  have BB_ := hide (below_y (unhide BB) hb)
  clear BB
  have BB := BB_
  clear BB_
  clear hb
  have Ac0_3 := (unhide A).cell 0 rfl
  have Ac1_3 := (unhide A).cell 1 rfl
  go_wp2
  go_ret
  exact ⟨rfl, unhide BB⟩
set_option maxHeartbeats 4000000 in
set_option maxRecDepth 100000 in
theorem right6 (e : Ed) (a : Option Addr) (c : Nat) (w : World) (hs : SmallEd 1048576 e) (hr : ReadO w (.slice a e.set.length c) e.set) :
    Calls Tryd.prog 91 #[.agg #[.string e.box, .slice a e.set.length c, .string e.dst]] w fun x w' => x = .returned (.bool ((okS e.set && nameOkL e.dst.data.toList))) ∧ Below w.heap.size w w' := by
  have SM := hide hs
  have RS := hide hr
  clear hs hr
  have BB := hide (Below.refl w.heap.size w)
  obtain ⟨wr1, hA⟩ : ∃ X, X = w.alloc (.cells ([.string e.box, .slice a e.set.length c, .string e.dst] : List Value).toArray 72) := ⟨_, rfl⟩
  have Ax : HasObj wr1 w.heap.size 72 [.string e.box, .slice a e.set.length c, .string e.dst] := by rw [hA]; exact HasObj.new _ _ _
  have hbn : Below w.heap.size w wr1 := by rw [hA]; exact (Below.refl _ _).alloc (Nat.le_refl _) _
  have loA : w.heap.size ≤ w.heap.size := (unhide BB).size
  have EA := hA.symm
  clear hA
  have RS_ := hide ((unhide RS).up hbn)
  clear RS
  have RS := RS_
  clear RS_
  have sz1 := hide (hbn.size)
  have BB_ := hide (below_y (unhide BB) hbn)
  clear BB
  have BB := BB_
  clear BB_
  clear hbn
  have A := hide Ax
  clear Ax
  have Ac0_1 := (unhide A).cell 0 rfl
  have Ac1_1 := (unhide A).cell 1 rfl
  have Ac2_1 := (unhide A).cell 2 rfl
  go_enter Tryd.func91, Tryd.ntmps91
  have Ac0_2 := (unhide A).cell 0 rfl
  have Ac1_2 := (unhide A).cell 1 rfl
  have Ac2_2 := (unhide A).cell 2 rfl
  go_wp2_with fail
  clear Ac0_1 Ac1_1 Ac2_1 Ac0_2 Ac1_2 Ac2_2 EA
  refine (impl_SetOk_any e.set _ _ (unhide SM).set (unhide RS)).mono ?_
  rintro e wr2 ⟨rfl, hb⟩
  have A_ := hide ((unhide A).ups hb)
  clear A
  have A := A_
  clear A_
  have RS_ := hide ((unhide RS).up hb)
  clear RS
  have RS := RS_
  clear RS_
  have sz2 := hide (hb.size)
  have BB_ := hide (below_y (unhide BB) hb)
  clear BB
  have BB := BB_
  clear BB_
  clear hb
  cases h0_ : okS e.set with
  | false =>
    have ANS : Hid ((okS e.set && nameOkL e.dst.data.toList) = false) := by show _ = _; simp [h0_]
    have Ac0_3 := (unhide A).cell 0 rfl
    have Ac1_3 := (unhide A).cell 1 rfl
    have Ac2_3 := (unhide A).cell 2 rfl
    go_wp2
    go_ret
    rw [unhide ANS]
    exact ⟨rfl, unhide BB⟩
  | true =>
    have Ac0_3 := (unhide A).cell 0 rfl
    have Ac1_3 := (unhide A).cell 1 rfl
    have Ac2_3 := (unhide A).cell 2 rfl
    go_wp2_with fail
    clear Ac0_3 Ac1_3 Ac2_3
    refine (impl_BoxName_any e.dst _ (unhide SM).dst).mono ?_
    rintro e wr3 ⟨rfl, hb⟩
    have A_ := hide ((unhide A).ups hb)
    clear A
    have A := A_
    clear A_
    have RS_ := hide ((unhide RS).up hb)
    clear RS
    have RS := RS_
    clear RS_
    have sz3 := hide (hb.size)
    have BB_ := hide (below_y (unhide BB) hb)
    clear BB
    have BB := BB_
    clear BB_
    clear hb
    have ANS : Hid ((okS e.set && nameOkL e.dst.data.toList) = nameOkL e.dst.data.toList) := by show _ = _; simp [h0_]
    have Ac0_4 := (unhide A).cell 0 rfl
    have Ac1_4 := (unhide A).cell 1 rfl
    have Ac2_4 := (unhide A).cell 2 rfl
    go_wp2
    go_ret
    rw [unhide ANS]
    exact ⟨rfl, unhide BB⟩
set_option maxHeartbeats 4000000 in
set_option maxRecDepth 100000 in
theorem right7 (e : Ed) (a : Option Addr) (c : Nat) (w : World) (hs : SmallEd 1048576 e) (hr : ReadO w (.slice a e.set.length c) e.set) :
    Calls Tryd.prog 93 #[.agg #[.string e.box, .slice a e.set.length c, .string e.dst]] w fun x w' => x = .returned (.bool ((okS e.set && nameOkL e.dst.data.toList))) ∧ Below w.heap.size w w' := by
  have SM := hide hs
  have RS := hide hr
  clear hs hr
  have BB := hide (Below.refl w.heap.size w)
  obtain ⟨wr1, hA⟩ : ∃ X, X = w.alloc (.cells ([.string e.box, .slice a e.set.length c, .string e.dst] : List Value).toArray 73) := ⟨_, rfl⟩
  have Ax : HasObj wr1 w.heap.size 73 [.string e.box, .slice a e.set.length c, .string e.dst] := by rw [hA]; exact HasObj.new _ _ _
  have hbn : Below w.heap.size w wr1 := by rw [hA]; exact (Below.refl _ _).alloc (Nat.le_refl _) _
  have loA : w.heap.size ≤ w.heap.size := (unhide BB).size
  have EA := hA.symm
  clear hA
  have RS_ := hide ((unhide RS).up hbn)
  clear RS
  have RS := RS_
  clear RS_
  have sz1 := hide (hbn.size)
  have BB_ := hide (below_y (unhide BB) hbn)
  clear BB
  have BB := BB_
  clear BB_
  clear hbn
  have A := hide Ax
  clear Ax
  have Ac0_1 := (unhide A).cell 0 rfl
  have Ac1_1 := (unhide A).cell 1 rfl
  have Ac2_1 := (unhide A).cell 2 rfl
  go_enter Tryd.func93, Tryd.ntmps93
  have Ac0_2 := (unhide A).cell 0 rfl
  have Ac1_2 := (unhide A).cell 1 rfl
  have Ac2_2 := (unhide A).cell 2 rfl
  go_wp2_with fail
  clear Ac0_1 Ac1_1 Ac2_1 Ac0_2 Ac1_2 Ac2_2 EA
  refine (impl_SetOk_any e.set _ _ (unhide SM).set (unhide RS)).mono ?_
  rintro e wr2 ⟨rfl, hb⟩
  have A_ := hide ((unhide A).ups hb)
  clear A
  have A := A_
  clear A_
  have RS_ := hide ((unhide RS).up hb)
  clear RS
  have RS := RS_
  clear RS_
  have sz2 := hide (hb.size)
  have BB_ := hide (below_y (unhide BB) hb)
  clear BB
  have BB := BB_
  clear BB_
  clear hb
  cases h0_ : okS e.set with
  | false =>
    have ANS : Hid ((okS e.set && nameOkL e.dst.data.toList) = false) := by show _ = _; simp [h0_]
    have Ac0_3 := (unhide A).cell 0 rfl
    have Ac1_3 := (unhide A).cell 1 rfl
    have Ac2_3 := (unhide A).cell 2 rfl
    go_wp2
    go_ret
    rw [unhide ANS]
    exact ⟨rfl, unhide BB⟩
  | true =>
    have Ac0_3 := (unhide A).cell 0 rfl
    have Ac1_3 := (unhide A).cell 1 rfl
    have Ac2_3 := (unhide A).cell 2 rfl
    go_wp2_with fail
    clear Ac0_3 Ac1_3 Ac2_3
    refine (impl_BoxName_any e.dst _ (unhide SM).dst).mono ?_
    rintro e wr3 ⟨rfl, hb⟩
    have A_ := hide ((unhide A).ups hb)
    clear A
    have A := A_
    clear A_
    have RS_ := hide ((unhide RS).up hb)
    clear RS
    have RS := RS_
    clear RS_
    have sz3 := hide (hb.size)
    have BB_ := hide (below_y (unhide BB) hb)
    clear BB
    have BB := BB_
    clear BB_
    clear hb
    have ANS : Hid ((okS e.set && nameOkL e.dst.data.toList) = nameOkL e.dst.data.toList) := by show _ = _; simp [h0_]
    have Ac0_4 := (unhide A).cell 0 rfl
    have Ac1_4 := (unhide A).cell 1 rfl
    have Ac2_4 := (unhide A).cell 2 rfl
    go_wp2
    go_ret
    rw [unhide ANS]
    exact ⟨rfl, unhide BB⟩
set_option maxHeartbeats 4000000 in
set_option maxRecDepth 100000 in
theorem right8 (e : Ed) (a : Option Addr) (c : Nat) (w : World) (hs : SmallEd 1048576 e) (hr : ReadO w (.slice a e.set.length c) e.set) :
    Calls Tryd.prog 95 #[.agg #[.string e.box, .int .i64 e.since]] w fun x w' => x = .returned (.bool (inI e.since 0 100000)) ∧ Below w.heap.size w w' := by
  have SM := hide hs
  have RS := hide hr
  clear hs hr
  have BB := hide (Below.refl w.heap.size w)
  obtain ⟨wr1, hA⟩ : ∃ X, X = w.alloc (.cells ([.string e.box, .int .i64 e.since] : List Value).toArray 75) := ⟨_, rfl⟩
  have Ax : HasObj wr1 w.heap.size 75 [.string e.box, .int .i64 e.since] := by rw [hA]; exact HasObj.new _ _ _
  have hbn : Below w.heap.size w wr1 := by rw [hA]; exact (Below.refl _ _).alloc (Nat.le_refl _) _
  have loA : w.heap.size ≤ w.heap.size := (unhide BB).size
  have EA := hA.symm
  clear hA
  have RS_ := hide ((unhide RS).up hbn)
  clear RS
  have RS := RS_
  clear RS_
  have sz1 := hide (hbn.size)
  have BB_ := hide (below_y (unhide BB) hbn)
  clear BB
  have BB := BB_
  clear BB_
  clear hbn
  have A := hide Ax
  clear Ax
  have Ac0_1 := (unhide A).cell 0 rfl
  have Ac1_1 := (unhide A).cell 1 rfl
  go_enter Tryd.func95, Tryd.ntmps95
  have Ac0_2 := (unhide A).cell 0 rfl
  have Ac1_2 := (unhide A).cell 1 rfl
  go_wp2_with fail
  clear Ac0_1 Ac1_1 Ac0_2 Ac1_2 EA
  refine (impl_within_any e.since 0 100000 _).mono ?_
  rintro x wr2 ⟨rfl, hw⟩
  subst wr2
  have Ac0_3 := (unhide A).cell 0 rfl
  have Ac1_3 := (unhide A).cell 1 rfl
  go_wp2
  go_ret
  exact ⟨rfl, unhide BB⟩
end Go.Proofs.YtecognggnbopaacDoor
