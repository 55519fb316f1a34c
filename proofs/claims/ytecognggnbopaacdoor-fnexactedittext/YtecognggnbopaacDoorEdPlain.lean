/- Edits that are right. Made by gen_edit.py. -/
import Derived.Test.YtecognggnbopaacDoorEdVal
import Derived.Test.YtecognggnbopaacDoorBoxNameS
import Derived.Test.YtecognggnbopaacDoorFlagA
namespace Go.Proofs.YtecognggnbopaacDoor
open Go.RowKit Go.ChangeShapes Go.WideShapes Go.ChangeAt Go.Deep
open Plain
set_option linter.unusedVariables false
set_option linter.unusedSimpArgs false

namespace Plain
/-- An edit that is right. -/
def okE (e : Ed) : Bool :=
  if e.kind = 1 then (nameOkL e.box.data.toList && (true) && ((((((([] == e.dst.toList) && decide (e.set.length = 0)) && decide ((0 : Int) = e.how)) && decide ((0 : Int) = e.bits)) && decide ((0 : Int) = e.since)) && ([] == e.text.toList))))
  else if e.kind = 2 then (nameOkL e.box.data.toList && (true) && ((((((([] == e.dst.toList) && decide (e.set.length = 0)) && decide ((0 : Int) = e.how)) && decide ((0 : Int) = e.bits)) && decide ((0 : Int) = e.since)) && ([] == e.text.toList))))
  else if e.kind = 3 then (nameOkL e.box.data.toList && ((flOk e.bits && mailOkL e.text.data.toList)) && ((((([] == e.dst.toList) && decide (e.set.length = 0)) && decide ((0 : Int) = e.how)) && decide ((0 : Int) = e.since))))
  else if e.kind = 4 then (nameOkL e.box.data.toList && ((((okS e.set && inI e.how 1 3) && flOk e.bits) && inI e.since (-1) 100000)) && ((([] == e.dst.toList) && ([] == e.text.toList))))
  else if e.kind = 5 then (nameOkL e.box.data.toList && (okS e.set) && (((((([] == e.dst.toList) && decide ((0 : Int) = e.how)) && decide ((0 : Int) = e.bits)) && decide ((0 : Int) = e.since)) && ([] == e.text.toList))))
  else if e.kind = 6 then (nameOkL e.box.data.toList && ((okS e.set && nameOkL e.dst.data.toList)) && ((((decide ((0 : Int) = e.how) && decide ((0 : Int) = e.bits)) && decide ((0 : Int) = e.since)) && ([] == e.text.toList))))
  else if e.kind = 7 then (nameOkL e.box.data.toList && ((okS e.set && nameOkL e.dst.data.toList)) && ((((decide ((0 : Int) = e.how) && decide ((0 : Int) = e.bits)) && decide ((0 : Int) = e.since)) && ([] == e.text.toList))))
  else if e.kind = 8 then (nameOkL e.box.data.toList && (inI e.since 0 100000) && (((((([] == e.dst.toList) && decide (e.set.length = 0)) && decide ((0 : Int) = e.how)) && decide ((0 : Int) = e.bits)) && ([] == e.text.toList))))
  else false
theorem okE_no {e : Ed} (h : inI e.kind 1 8 = false) : okE e = false := by
  have hn : ∀ k : Int, 1 ≤ k → k ≤ 8 → ¬ e.kind = k := fun k h1 h2 h3 => by rw [h3, inI_iff.2 ⟨h1, h2⟩] at h; cases h
  unfold okE
  rw [if_neg (hn 1 (by decide) (by decide)), if_neg (hn 2 (by decide) (by decide)), if_neg (hn 3 (by decide) (by decide)), if_neg (hn 4 (by decide) (by decide)), if_neg (hn 5 (by decide) (by decide)), if_neg (hn 6 (by decide) (by decide)), if_neg (hn 7 (by decide) (by decide)), if_neg (hn 8 (by decide) (by decide))]
theorem kinds {k : Int} (h : inI k 1 8 = true) : k = 1 ∨ k = 2 ∨ k = 3 ∨ k = 4 ∨ k = 5 ∨ k = 6 ∨ k = 7 ∨ k = 8 := by rw [inI_iff] at h; omega
theorem okS_zero {l : List Rg} (h : l.length = 0) : okS l = true := by rw [List.eq_nil_of_length_eq_zero h]; rfl
theorem okE_1 {e : Ed} (h : e.kind = 1) : okE e = (nameOkL e.box.data.toList && (true) && ((((((([] == e.dst.toList) && decide (e.set.length = 0)) && decide ((0 : Int) = e.how)) && decide ((0 : Int) = e.bits)) && decide ((0 : Int) = e.since)) && ([] == e.text.toList)))) := by
  unfold okE
  rw [if_pos h]
theorem both_1 (e : Ed) : ((((nameOkL e.box.data.toList && ((((((([] == e.dst.toList) && decide (e.set.length = 0)) && decide ((0 : Int) = e.how)) && decide ((0 : Int) = e.bits)) && decide ((0 : Int) = e.since)) && ([] == e.text.toList)))) && okS e.set) && flOk e.bits)) = (nameOkL e.box.data.toList && (true) && ((((((([] == e.dst.toList) && decide (e.set.length = 0)) && decide ((0 : Int) = e.how)) && decide ((0 : Int) = e.bits)) && decide ((0 : Int) = e.since)) && ([] == e.text.toList)))) := by
  rw [Bool.eq_iff_iff]
  simp only [Bool.and_eq_true, decide_eq_true_eq]
  constructor
  · rintro ⟨⟨⟨p0, ⟨⟨⟨⟨⟨u0, u1⟩, u2⟩, u3⟩, u4⟩, u5⟩⟩, pS⟩, pF⟩
    exact ⟨⟨p0, trivial⟩, ⟨⟨⟨⟨⟨u0, u1⟩, u2⟩, u3⟩, u4⟩, u5⟩⟩
  · rintro ⟨⟨p0, _⟩, ⟨⟨⟨⟨⟨u0, u1⟩, u2⟩, u3⟩, u4⟩, u5⟩⟩
    exact ⟨⟨⟨p0, ⟨⟨⟨⟨⟨u0, u1⟩, u2⟩, u3⟩, u4⟩, u5⟩⟩, (okS_zero u1)⟩, (by rw [← u3]; rfl)⟩
theorem okE_2 {e : Ed} (h : e.kind = 2) : okE e = (nameOkL e.box.data.toList && (true) && ((((((([] == e.dst.toList) && decide (e.set.length = 0)) && decide ((0 : Int) = e.how)) && decide ((0 : Int) = e.bits)) && decide ((0 : Int) = e.since)) && ([] == e.text.toList)))) := by
  unfold okE
  rw [if_neg (show ¬ e.kind = 1 by rw [h]; decide), if_pos h]
theorem both_2 (e : Ed) : ((((nameOkL e.box.data.toList && ((((((([] == e.dst.toList) && decide (e.set.length = 0)) && decide ((0 : Int) = e.how)) && decide ((0 : Int) = e.bits)) && decide ((0 : Int) = e.since)) && ([] == e.text.toList)))) && okS e.set) && flOk e.bits)) = (nameOkL e.box.data.toList && (true) && ((((((([] == e.dst.toList) && decide (e.set.length = 0)) && decide ((0 : Int) = e.how)) && decide ((0 : Int) = e.bits)) && decide ((0 : Int) = e.since)) && ([] == e.text.toList)))) := by
  rw [Bool.eq_iff_iff]
  simp only [Bool.and_eq_true, decide_eq_true_eq]
  constructor
  · rintro ⟨⟨⟨p0, ⟨⟨⟨⟨⟨u0, u1⟩, u2⟩, u3⟩, u4⟩, u5⟩⟩, pS⟩, pF⟩
    exact ⟨⟨p0, trivial⟩, ⟨⟨⟨⟨⟨u0, u1⟩, u2⟩, u3⟩, u4⟩, u5⟩⟩
  · rintro ⟨⟨p0, _⟩, ⟨⟨⟨⟨⟨u0, u1⟩, u2⟩, u3⟩, u4⟩, u5⟩⟩
    exact ⟨⟨⟨p0, ⟨⟨⟨⟨⟨u0, u1⟩, u2⟩, u3⟩, u4⟩, u5⟩⟩, (okS_zero u1)⟩, (by rw [← u3]; rfl)⟩
theorem okE_3 {e : Ed} (h : e.kind = 3) : okE e = (nameOkL e.box.data.toList && ((flOk e.bits && mailOkL e.text.data.toList)) && ((((([] == e.dst.toList) && decide (e.set.length = 0)) && decide ((0 : Int) = e.how)) && decide ((0 : Int) = e.since)))) := by
  unfold okE
  rw [if_neg (show ¬ e.kind = 1 by rw [h]; decide), if_neg (show ¬ e.kind = 2 by rw [h]; decide), if_pos h]
theorem both_3 (e : Ed) : (((((nameOkL e.box.data.toList && ((((([] == e.dst.toList) && decide (e.set.length = 0)) && decide ((0 : Int) = e.how)) && decide ((0 : Int) = e.since)))) && okS e.set) && flOk e.bits) && mailOkL e.text.data.toList)) = (nameOkL e.box.data.toList && ((flOk e.bits && mailOkL e.text.data.toList)) && ((((([] == e.dst.toList) && decide (e.set.length = 0)) && decide ((0 : Int) = e.how)) && decide ((0 : Int) = e.since)))) := by
  rw [Bool.eq_iff_iff]
  simp only [Bool.and_eq_true, decide_eq_true_eq]
  constructor
  · rintro ⟨⟨⟨⟨p0, ⟨⟨⟨u0, u1⟩, u2⟩, u3⟩⟩, pS⟩, pF⟩, q0⟩
    exact ⟨⟨p0, ⟨pF, q0⟩⟩, ⟨⟨⟨u0, u1⟩, u2⟩, u3⟩⟩
  · rintro ⟨⟨p0, ⟨r0, r1⟩⟩, ⟨⟨⟨u0, u1⟩, u2⟩, u3⟩⟩
    exact ⟨⟨⟨⟨p0, ⟨⟨⟨u0, u1⟩, u2⟩, u3⟩⟩, (okS_zero u1)⟩, r0⟩, r1⟩
theorem okE_4 {e : Ed} (h : e.kind = 4) : okE e = (nameOkL e.box.data.toList && ((((okS e.set && inI e.how 1 3) && flOk e.bits) && inI e.since (-1) 100000)) && ((([] == e.dst.toList) && ([] == e.text.toList)))) := by
  unfold okE
  rw [if_neg (show ¬ e.kind = 1 by rw [h]; decide), if_neg (show ¬ e.kind = 2 by rw [h]; decide), if_neg (show ¬ e.kind = 3 by rw [h]; decide), if_pos h]
theorem both_4 (e : Ed) : ((((((nameOkL e.box.data.toList && ((([] == e.dst.toList) && ([] == e.text.toList)))) && okS e.set) && flOk e.bits) && inI e.how 1 3) && inI e.since (-1) 100000)) = (nameOkL e.box.data.toList && ((((okS e.set && inI e.how 1 3) && flOk e.bits) && inI e.since (-1) 100000)) && ((([] == e.dst.toList) && ([] == e.text.toList)))) := by
  rw [Bool.eq_iff_iff]
  simp only [Bool.and_eq_true, decide_eq_true_eq]
  constructor
  · rintro ⟨⟨⟨⟨⟨p0, ⟨u0, u1⟩⟩, pS⟩, pF⟩, q0⟩, q1⟩
    exact ⟨⟨p0, ⟨⟨⟨pS, q0⟩, pF⟩, q1⟩⟩, ⟨u0, u1⟩⟩
  · rintro ⟨⟨p0, ⟨⟨⟨r0, r1⟩, r2⟩, r3⟩⟩, ⟨u0, u1⟩⟩
    exact ⟨⟨⟨⟨⟨p0, ⟨u0, u1⟩⟩, (r0)⟩, r2⟩, r1⟩, r3⟩
theorem okE_5 {e : Ed} (h : e.kind = 5) : okE e = (nameOkL e.box.data.toList && (okS e.set) && (((((([] == e.dst.toList) && decide ((0 : Int) = e.how)) && decide ((0 : Int) = e.bits)) && decide ((0 : Int) = e.since)) && ([] == e.text.toList)))) := by
  unfold okE
  rw [if_neg (show ¬ e.kind = 1 by rw [h]; decide), if_neg (show ¬ e.kind = 2 by rw [h]; decide), if_neg (show ¬ e.kind = 3 by rw [h]; decide), if_neg (show ¬ e.kind = 4 by rw [h]; decide), if_pos h]
theorem both_5 (e : Ed) : ((((nameOkL e.box.data.toList && (((((([] == e.dst.toList) && decide ((0 : Int) = e.how)) && decide ((0 : Int) = e.bits)) && decide ((0 : Int) = e.since)) && ([] == e.text.toList)))) && okS e.set) && flOk e.bits)) = (nameOkL e.box.data.toList && (okS e.set) && (((((([] == e.dst.toList) && decide ((0 : Int) = e.how)) && decide ((0 : Int) = e.bits)) && decide ((0 : Int) = e.since)) && ([] == e.text.toList)))) := by
  rw [Bool.eq_iff_iff]
  simp only [Bool.and_eq_true, decide_eq_true_eq]
  constructor
  · rintro ⟨⟨⟨p0, ⟨⟨⟨⟨u0, u1⟩, u2⟩, u3⟩, u4⟩⟩, pS⟩, pF⟩
    exact ⟨⟨p0, pS⟩, ⟨⟨⟨⟨u0, u1⟩, u2⟩, u3⟩, u4⟩⟩
  · rintro ⟨⟨p0, r0⟩, ⟨⟨⟨⟨u0, u1⟩, u2⟩, u3⟩, u4⟩⟩
    exact ⟨⟨⟨p0, ⟨⟨⟨⟨u0, u1⟩, u2⟩, u3⟩, u4⟩⟩, (r0)⟩, (by rw [← u2]; rfl)⟩
theorem okE_6 {e : Ed} (h : e.kind = 6) : okE e = (nameOkL e.box.data.toList && ((okS e.set && nameOkL e.dst.data.toList)) && ((((decide ((0 : Int) = e.how) && decide ((0 : Int) = e.bits)) && decide ((0 : Int) = e.since)) && ([] == e.text.toList)))) := by
  unfold okE
  rw [if_neg (show ¬ e.kind = 1 by rw [h]; decide), if_neg (show ¬ e.kind = 2 by rw [h]; decide), if_neg (show ¬ e.kind = 3 by rw [h]; decide), if_neg (show ¬ e.kind = 4 by rw [h]; decide), if_neg (show ¬ e.kind = 5 by rw [h]; decide), if_pos h]
theorem both_6 (e : Ed) : (((((nameOkL e.box.data.toList && ((((decide ((0 : Int) = e.how) && decide ((0 : Int) = e.bits)) && decide ((0 : Int) = e.since)) && ([] == e.text.toList)))) && okS e.set) && flOk e.bits) && nameOkL e.dst.data.toList)) = (nameOkL e.box.data.toList && ((okS e.set && nameOkL e.dst.data.toList)) && ((((decide ((0 : Int) = e.how) && decide ((0 : Int) = e.bits)) && decide ((0 : Int) = e.since)) && ([] == e.text.toList)))) := by
  rw [Bool.eq_iff_iff]
  simp only [Bool.and_eq_true, decide_eq_true_eq]
  constructor
  · rintro ⟨⟨⟨⟨p0, ⟨⟨⟨u0, u1⟩, u2⟩, u3⟩⟩, pS⟩, pF⟩, q0⟩
    exact ⟨⟨p0, ⟨pS, q0⟩⟩, ⟨⟨⟨u0, u1⟩, u2⟩, u3⟩⟩
  · rintro ⟨⟨p0, ⟨r0, r1⟩⟩, ⟨⟨⟨u0, u1⟩, u2⟩, u3⟩⟩
    exact ⟨⟨⟨⟨p0, ⟨⟨⟨u0, u1⟩, u2⟩, u3⟩⟩, (r0)⟩, (by rw [← u1]; rfl)⟩, r1⟩
theorem okE_7 {e : Ed} (h : e.kind = 7) : okE e = (nameOkL e.box.data.toList && ((okS e.set && nameOkL e.dst.data.toList)) && ((((decide ((0 : Int) = e.how) && decide ((0 : Int) = e.bits)) && decide ((0 : Int) = e.since)) && ([] == e.text.toList)))) := by
  unfold okE
  rw [if_neg (show ¬ e.kind = 1 by rw [h]; decide), if_neg (show ¬ e.kind = 2 by rw [h]; decide), if_neg (show ¬ e.kind = 3 by rw [h]; decide), if_neg (show ¬ e.kind = 4 by rw [h]; decide), if_neg (show ¬ e.kind = 5 by rw [h]; decide), if_neg (show ¬ e.kind = 6 by rw [h]; decide), if_pos h]
theorem both_7 (e : Ed) : (((((nameOkL e.box.data.toList && ((((decide ((0 : Int) = e.how) && decide ((0 : Int) = e.bits)) && decide ((0 : Int) = e.since)) && ([] == e.text.toList)))) && okS e.set) && flOk e.bits) && nameOkL e.dst.data.toList)) = (nameOkL e.box.data.toList && ((okS e.set && nameOkL e.dst.data.toList)) && ((((decide ((0 : Int) = e.how) && decide ((0 : Int) = e.bits)) && decide ((0 : Int) = e.since)) && ([] == e.text.toList)))) := by
  rw [Bool.eq_iff_iff]
  simp only [Bool.and_eq_true, decide_eq_true_eq]
  constructor
  · rintro ⟨⟨⟨⟨p0, ⟨⟨⟨u0, u1⟩, u2⟩, u3⟩⟩, pS⟩, pF⟩, q0⟩
    exact ⟨⟨p0, ⟨pS, q0⟩⟩, ⟨⟨⟨u0, u1⟩, u2⟩, u3⟩⟩
  · rintro ⟨⟨p0, ⟨r0, r1⟩⟩, ⟨⟨⟨u0, u1⟩, u2⟩, u3⟩⟩
    exact ⟨⟨⟨⟨p0, ⟨⟨⟨u0, u1⟩, u2⟩, u3⟩⟩, (r0)⟩, (by rw [← u1]; rfl)⟩, r1⟩
theorem okE_8 {e : Ed} (h : e.kind = 8) : okE e = (nameOkL e.box.data.toList && (inI e.since 0 100000) && (((((([] == e.dst.toList) && decide (e.set.length = 0)) && decide ((0 : Int) = e.how)) && decide ((0 : Int) = e.bits)) && ([] == e.text.toList)))) := by
  unfold okE
  rw [if_neg (show ¬ e.kind = 1 by rw [h]; decide), if_neg (show ¬ e.kind = 2 by rw [h]; decide), if_neg (show ¬ e.kind = 3 by rw [h]; decide), if_neg (show ¬ e.kind = 4 by rw [h]; decide), if_neg (show ¬ e.kind = 5 by rw [h]; decide), if_neg (show ¬ e.kind = 6 by rw [h]; decide), if_neg (show ¬ e.kind = 7 by rw [h]; decide), if_pos h]
theorem both_8 (e : Ed) : (((((nameOkL e.box.data.toList && (((((([] == e.dst.toList) && decide (e.set.length = 0)) && decide ((0 : Int) = e.how)) && decide ((0 : Int) = e.bits)) && ([] == e.text.toList)))) && okS e.set) && flOk e.bits) && inI e.since 0 100000)) = (nameOkL e.box.data.toList && (inI e.since 0 100000) && (((((([] == e.dst.toList) && decide (e.set.length = 0)) && decide ((0 : Int) = e.how)) && decide ((0 : Int) = e.bits)) && ([] == e.text.toList)))) := by
  rw [Bool.eq_iff_iff]
  simp only [Bool.and_eq_true, decide_eq_true_eq]
  constructor
  · rintro ⟨⟨⟨⟨p0, ⟨⟨⟨⟨u0, u1⟩, u2⟩, u3⟩, u4⟩⟩, pS⟩, pF⟩, q0⟩
    exact ⟨⟨p0, q0⟩, ⟨⟨⟨⟨u0, u1⟩, u2⟩, u3⟩, u4⟩⟩
  · rintro ⟨⟨p0, r0⟩, ⟨⟨⟨⟨u0, u1⟩, u2⟩, u3⟩, u4⟩⟩
    exact ⟨⟨⟨⟨p0, ⟨⟨⟨⟨u0, u1⟩, u2⟩, u3⟩, u4⟩⟩, (okS_zero u1)⟩, (by rw [← u3]; rfl)⟩, r0⟩
end Plain
end Go.Proofs.YtecognggnbopaacDoor
