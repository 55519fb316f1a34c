/- Several texts in one. -/
import Derived.Test.YtocaljbimhjmgaaGreatDoorBoxA
import Derived.Test.YtocaljbimhjmgaaGreatDoorPlainA
import Derived.Test.YtocaljbimhjmgaaGreatDoorFlagA
import Derived.Test.YtocaljbimhjmgaaGreatDoorEdA
/- Boxes, plainly: when one is right. Nothing of the program stands here but how a box is written down. -/
namespace Go.Proofs.YtocaljbimhjmgaaGreatDoor.Plain
open Go.RowKit
set_option linter.unusedVariables false

def inI (x l m : Int) : Bool := decide (l ≤ x) && decide (x ≤ m)
theorem inI_iff {x l m : Int} : inI x l m = true ↔ l ≤ x ∧ x ≤ m := by unfold inI; rw [Bool.and_eq_true, decide_eq_true_eq, decide_eq_true_eq]
def nameOkL (l : List UInt8) : Bool := l.all (fun c => decide (97 ≤ c.toNat) && decide (c.toNat ≤ 122)) && inI (l.length : Int) 1 8
def before {α : Type} (l : List α) (i : Nat) : Option α := match i with | 0 => none | j + 1 => l[j]?
end Go.Proofs.YtocaljbimhjmgaaGreatDoor.Plain

/- Boxes, plainly: flags of those that are told change. Nothing of the program stands here. -/
namespace Go.Proofs.YtocaljbimhjmgaaGreatDoor.Plain
open Go.RowKit
set_option linter.unusedVariables false

end Go.Proofs.YtocaljbimhjmgaaGreatDoor.Plain

/- Sets of Uids, plainly: one after the other added, or all united. Nothing of the program stands here. -/
namespace Go.Proofs.YtocaljbimhjmgaaGreatDoor.Plain
open Go.RowKit
set_option linter.unusedVariables false

end Go.Proofs.YtocaljbimhjmgaaGreatDoor.Plain

namespace Go.Proofs.YtocaljbimhjmgaaGreatDoor
open Go.RowKit
open Plain
set_option linter.unusedVariables false

theorem in_any (x l m : Int) (w : World) : Calls Tryz.prog 40 #[.int .i64 x, .int .i64 l, .int .i64 m] w fun e w' => e = .returned (.bool (inI x l m)) ∧ w' = w := l01In_held x l m w
namespace Plain
def letter (c : UInt8) : Bool := decide (97 ≤ c.toNat) && decide (c.toNat ≤ 122)
theorem name_no {l : List UInt8} {i : Nat} {c : UInt8} (h : l[i]? = some c) (hc : letter c = false) : nameOkL l = false := by
  unfold nameOkL
  have : l.all (fun c => decide (97 ≤ c.toNat) && decide (c.toNat ≤ 122)) = false := by
    rw [List.all_eq_false]
    exact ⟨c, List.mem_of_getElem? h, by rw [show (decide (97 ≤ c.toNat) && decide (c.toNat ≤ 122)) = letter c from rfl, hc]; decide⟩
  rw [this, Bool.false_and]
theorem name_yes {l : List UInt8} (h : ∀ (i : Nat) (c : UInt8), l[i]? = some c → letter c = true) : nameOkL l = inI (l.length : Int) 1 8 := by
  unfold nameOkL
  have : l.all (fun c => decide (97 ≤ c.toNat) && decide (c.toNat ≤ 122)) = true := by
    rw [List.all_eq_true]
    intro c hc
    obtain ⟨i, hi, rfl⟩ := List.getElem_of_mem hc
    exact h i _ (List.getElem?_eq_getElem hi)
  rw [this, Bool.true_and]
end Plain
set_option maxHeartbeats 1000000 in
set_option maxRecDepth 100000 in
theorem spec_BoxName_any (s : ByteArray) (w : World) (hs : s.size ≤ 1048576) :
    Calls Tryz.prog 41 #[.string s] w fun e w' => e = .returned (.bool (nameOkL s.data.toList)) ∧ w' = w := by
  have Q := hide (in_any (s.size : Int) 1 8 w)
  have hls : Hid (s.data.toList.length = s.size) := rfl
  go_enter Tryz.func41, Tryz.ntmps41
  go_wp2
  go_loop [3] (fun i => ∃ k : Nat, k ≤ s.size ∧ i = .int .i64 k ∧ ∀ j c, j < k → s.data.toList[j]? = some c → letter c = true) (fun i => s.size - (intOf i).toNat)
  case atStart => exact ⟨0, Nat.zero_le _, rfl, fun j c hj => by omega⟩
  case round =>
    obtain ⟨k, hk, rfl, hall⟩ := hrel
    have HC := hide hall
    clear hall
    by_cases hlt : k < s.size
    · have hx : s.data.toList[k]? = some s[k] := by
        have := List.getElem?_eq_getElem (l := s.data.toList) (i := k) hlt
        rw [this]
        rfl
      have NO := hide (fun h => name_no hx h)
      have ON : Hid (letter s[k] = true → ∀ j c, j < k + 1 → s.data.toList[j]? = some c → letter c = true) := fun h j c hj hc => by
        by_cases e : j = k
        · subst e
          rw [hx] at hc
          cases hc
          exact h
        · exact unhide HC j c (by omega) hc
      have LD : Hid (letter s[k] = (decide (97 ≤ s[k].toNat) && decide (s[k].toNat ≤ 122))) := rfl
      clear hx HC
      have i1 : (0 : Int) ≤ (k : Int) := by omega
      have i2 : (k : Int) < (s.size : Int) := by omega
      by_cases h1 : 97 ≤ s[k].toNat
      · have d1 : decide ((s[k].toNat : Int) < 97) = false := by rw [decide_eq_false_iff_not]; omega
        by_cases h2 : s[k].toNat ≤ 122
        · have d2 : decide ((122 : Int) < (s[k].toNat : Int)) = false := by rw [decide_eq_false_iff_not]; omega
          have ok := hide (unhide ON (by rw [unhide LD, decide_eq_true h1, decide_eq_true h2]; rfl))
          go_wp2
          exact ⟨⟨k + 1, by omega, by go_num, unhide ok⟩, by simp [intOf]; omega⟩
        · have d2 : decide ((122 : Int) < (s[k].toNat : Int)) = true := by rw [decide_eq_true_eq]; omega
          have no := hide (unhide NO (by rw [unhide LD, decide_eq_false h2, Bool.and_false]))
          go_wp2
          go_ret
          exact ⟨by rw [unhide no]; rfl, rfl⟩
      · have d1 : decide ((s[k].toNat : Int) < 97) = true := by rw [decide_eq_true_eq]; omega
        have no := hide (unhide NO (by rw [unhide LD, decide_eq_false h1, Bool.false_and]))
        go_wp2
        go_ret
        exact ⟨by rw [unhide no]; rfl, rfl⟩
    · have e : k = s.size := by omega
      subst e
      have V : Hid (nameOkL s.data.toList = inI (s.size : Int) 1 8) := name_yes (fun i c hc => unhide HC i c (by have := (List.getElem?_eq_some_iff.1 hc).1; have h2 := unhide hls; omega) hc)
      clear HC
      go_wp2_with (go_at_call 40; refine (unhide Q).mono ?_; rintro e w1 ⟨rfl, hw⟩; subst w1)
      go_ret
      exact ⟨by rw [unhide V]; rfl, rfl⟩

namespace Plain
end Plain
end Go.Proofs.YtocaljbimhjmgaaGreatDoor

namespace Go.Proofs.YtocaljbimhjmgaaGreatDoor
open Go.RowKit Go.ChangeShapes Go.WideShapes Go.ChangeAt Go.Deep
open Plain
set_option linter.unusedVariables false
set_option linter.unusedSimpArgs false

namespace Plain
/-- An edit that is right. -/
def okE (e : Ed) : Bool :=
  if e.kind = 1 then (nameOkL e.box.data.toList && (true) && ((((((([] == e.dst.toList) && decide (e.set.length = 0)) && decide ((0 : Int) = e.how)) && decide ((0 : Int) = e.bits)) && decide ((0 : Int) = e.since)) && ([] == e.text.toList))))
  else if e.kind = 2 then (nameOkL e.box.data.toList && (true) && ((((((([] == e.dst.toList) && decide (e.set.length = 0)) && decide ((0 : Int) = e.how)) && decide ((0 : Int) = e.bits)) && decide ((0 : Int) = e.since)) && ([] == e.text.toList))))
  else if e.kind = 3 then (nameOkL e.box.data.toList && ((flOk e.bits && mailOkL e.text.data.toList)) && ((((([] == e.dst.toList) && decide (e.set.length = 0)) && decide ((0 : Int) = e.how)) && decide ((0 : Int) = e.since))))
  else if e.kind = 4 then (nameOkL e.box.data.toList && ((((okS e.set && inI e.how 1 3) && flOk e.bits) && inI e.since (-1) 100000)) && ((([] == e.dst.toList) && ([] == e.text.toList))))
  else if e.kind = 5 then (nameOkL e.box.data.toList && (okS e.set) && (((((([] == e.dst.toList) && decide ((0 : Int) = e.how)) && decide ((0 : Int) = e.bits)) && decide ((0 : Int) = e.since)) && ([] == e.text.toList))))
  else if e.kind = 6 then (nameOkL e.box.data.toList && ((okS e.set && nameOkL e.dst.data.toList)) && ((((decide ((0 : Int) = e.how) && decide ((0 : Int) = e.bits)) && decide ((0 : Int) = e.since)) && ([] == e.text.toList))))
  else if e.kind = 7 then (nameOkL e.box.data.toList && ((okS e.set && nameOkL e.dst.data.toList)) && ((((decide ((0 : Int) = e.how) && decide ((0 : Int) = e.bits)) && decide ((0 : Int) = e.since)) && ([] == e.text.toList))))
  else if e.kind = 8 then (nameOkL e.box.data.toList && (inI e.since 0 100000) && (((((([] == e.dst.toList) && decide (e.set.length = 0)) && decide ((0 : Int) = e.how)) && decide ((0 : Int) = e.bits)) && ([] == e.text.toList))))
  else false
theorem okE_no {e : Ed} (h : inI e.kind 1 8 = false) : okE e = false := by
  have hn : ∀ k : Int, 1 ≤ k → k ≤ 8 → ¬ e.kind = k := fun k h1 h2 h3 => by rw [h3, inI_iff.2 ⟨h1, h2⟩] at h; cases h
  unfold okE
  rw [if_neg (hn 1 (by decide) (by decide)), if_neg (hn 2 (by decide) (by decide)), if_neg (hn 3 (by decide) (by decide)), if_neg (hn 4 (by decide) (by decide)), if_neg (hn 5 (by decide) (by decide)), if_neg (hn 6 (by decide) (by decide)), if_neg (hn 7 (by decide) (by decide)), if_neg (hn 8 (by decide) (by decide))]
theorem kinds {k : Int} (h : inI k 1 8 = true) : k = 1 ∨ k = 2 ∨ k = 3 ∨ k = 4 ∨ k = 5 ∨ k = 6 ∨ k = 7 ∨ k = 8 := by rw [inI_iff] at h; omega
theorem okS_zero {l : List Rg} (h : l.length = 0) : okS l = true := by rw [List.eq_nil_of_length_eq_zero h]; rfl
theorem okE_1 {e : Ed} (h : e.kind = 1) : okE e = (nameOkL e.box.data.toList && (true) && ((((((([] == e.dst.toList) && decide (e.set.length = 0)) && decide ((0 : Int) = e.how)) && decide ((0 : Int) = e.bits)) && decide ((0 : Int) = e.since)) && ([] == e.text.toList)))) := by
  unfold okE
  rw [if_pos h]
theorem both_1 (e : Ed) : ((((nameOkL e.box.data.toList && ((((((([] == e.dst.toList) && decide (e.set.length = 0)) && decide ((0 : Int) = e.how)) && decide ((0 : Int) = e.bits)) && decide ((0 : Int) = e.since)) && ([] == e.text.toList)))) && okS e.set) && flOk e.bits)) = (nameOkL e.box.data.toList && (true) && ((((((([] == e.dst.toList) && decide (e.set.length = 0)) && decide ((0 : Int) = e.how)) && decide ((0 : Int) = e.bits)) && decide ((0 : Int) = e.since)) && ([] == e.text.toList)))) := by
  rw [Bool.eq_iff_iff]
  simp only [Bool.and_eq_true, decide_eq_true_eq]
  constructor
  · rintro ⟨⟨⟨p0, ⟨⟨⟨⟨⟨u0, u1⟩, u2⟩, u3⟩, u4⟩, u5⟩⟩, pS⟩, pF⟩
    exact ⟨⟨p0, trivial⟩, ⟨⟨⟨⟨⟨u0, u1⟩, u2⟩, u3⟩, u4⟩, u5⟩⟩
  · rintro ⟨⟨p0, _⟩, ⟨⟨⟨⟨⟨u0, u1⟩, u2⟩, u3⟩, u4⟩, u5⟩⟩
    exact ⟨⟨⟨p0, ⟨⟨⟨⟨⟨u0, u1⟩, u2⟩, u3⟩, u4⟩, u5⟩⟩, (okS_zero u1)⟩, (by rw [← u3]; rfl)⟩
theorem okE_2 {e : Ed} (h : e.kind = 2) : okE e = (nameOkL e.box.data.toList && (true) && ((((((([] == e.dst.toList) && decide (e.set.length = 0)) && decide ((0 : Int) = e.how)) && decide ((0 : Int) = e.bits)) && decide ((0 : Int) = e.since)) && ([] == e.text.toList)))) := by
  unfold okE
  rw [if_neg (show ¬ e.kind = 1 by rw [h]; decide), if_pos h]
theorem both_2 (e : Ed) : ((((nameOkL e.box.data.toList && ((((((([] == e.dst.toList) && decide (e.set.length = 0)) && decide ((0 : Int) = e.how)) && decide ((0 : Int) = e.bits)) && decide ((0 : Int) = e.since)) && ([] == e.text.toList)))) && okS e.set) && flOk e.bits)) = (nameOkL e.box.data.toList && (true) && ((((((([] == e.dst.toList) && decide (e.set.length = 0)) && decide ((0 : Int) = e.how)) && decide ((0 : Int) = e.bits)) && decide ((0 : Int) = e.since)) && ([] == e.text.toList)))) := by
  rw [Bool.eq_iff_iff]
  simp only [Bool.and_eq_true, decide_eq_true_eq]
  constructor
  · rintro ⟨⟨⟨p0, ⟨⟨⟨⟨⟨u0, u1⟩, u2⟩, u3⟩, u4⟩, u5⟩⟩, pS⟩, pF⟩
    exact ⟨⟨p0, trivial⟩, ⟨⟨⟨⟨⟨u0, u1⟩, u2⟩, u3⟩, u4⟩, u5⟩⟩
  · rintro ⟨⟨p0, _⟩, ⟨⟨⟨⟨⟨u0, u1⟩, u2⟩, u3⟩, u4⟩, u5⟩⟩
    exact ⟨⟨⟨p0, ⟨⟨⟨⟨⟨u0, u1⟩, u2⟩, u3⟩, u4⟩, u5⟩⟩, (okS_zero u1)⟩, (by rw [← u3]; rfl)⟩
theorem okE_3 {e : Ed} (h : e.kind = 3) : okE e = (nameOkL e.box.data.toList && ((flOk e.bits && mailOkL e.text.data.toList)) && ((((([] == e.dst.toList) && decide (e.set.length = 0)) && decide ((0 : Int) = e.how)) && decide ((0 : Int) = e.since)))) := by
  unfold okE
  rw [if_neg (show ¬ e.kind = 1 by rw [h]; decide), if_neg (show ¬ e.kind = 2 by rw [h]; decide), if_pos h]
theorem both_3 (e : Ed) : (((((nameOkL e.box.data.toList && ((((([] == e.dst.toList) && decide (e.set.length = 0)) && decide ((0 : Int) = e.how)) && decide ((0 : Int) = e.since)))) && okS e.set) && flOk e.bits) && mailOkL e.text.data.toList)) = (nameOkL e.box.data.toList && ((flOk e.bits && mailOkL e.text.data.toList)) && ((((([] == e.dst.toList) && decide (e.set.length = 0)) && decide ((0 : Int) = e.how)) && decide ((0 : Int) = e.since)))) := by
  rw [Bool.eq_iff_iff]
  simp only [Bool.and_eq_true, decide_eq_true_eq]
  constructor
  · rintro ⟨⟨⟨⟨p0, ⟨⟨⟨u0, u1⟩, u2⟩, u3⟩⟩, pS⟩, pF⟩, q0⟩
    exact ⟨⟨p0, ⟨pF, q0⟩⟩, ⟨⟨⟨u0, u1⟩, u2⟩, u3⟩⟩
  · rintro ⟨⟨p0, ⟨r0, r1⟩⟩, ⟨⟨⟨u0, u1⟩, u2⟩, u3⟩⟩
    exact ⟨⟨⟨⟨p0, ⟨⟨⟨u0, u1⟩, u2⟩, u3⟩⟩, (okS_zero u1)⟩, r0⟩, r1⟩
theorem okE_4 {e : Ed} (h : e.kind = 4) : okE e = (nameOkL e.box.data.toList && ((((okS e.set && inI e.how 1 3) && flOk e.bits) && inI e.since (-1) 100000)) && ((([] == e.dst.toList) && ([] == e.text.toList)))) := by
  unfold okE
  rw [if_neg (show ¬ e.kind = 1 by rw [h]; decide), if_neg (show ¬ e.kind = 2 by rw [h]; decide), if_neg (show ¬ e.kind = 3 by rw [h]; decide), if_pos h]
theorem both_4 (e : Ed) : ((((((nameOkL e.box.data.toList && ((([] == e.dst.toList) && ([] == e.text.toList)))) && okS e.set) && flOk e.bits) && inI e.how 1 3) && inI e.since (-1) 100000)) = (nameOkL e.box.data.toList && ((((okS e.set && inI e.how 1 3) && flOk e.bits) && inI e.since (-1) 100000)) && ((([] == e.dst.toList) && ([] == e.text.toList)))) := by
  rw [Bool.eq_iff_iff]
  simp only [Bool.and_eq_true, decide_eq_true_eq]
  constructor
  · rintro ⟨⟨⟨⟨⟨p0, ⟨u0, u1⟩⟩, pS⟩, pF⟩, q0⟩, q1⟩
    exact ⟨⟨p0, ⟨⟨⟨pS, q0⟩, pF⟩, q1⟩⟩, ⟨u0, u1⟩⟩
  · rintro ⟨⟨p0, ⟨⟨⟨r0, r1⟩, r2⟩, r3⟩⟩, ⟨u0, u1⟩⟩
    exact ⟨⟨⟨⟨⟨p0, ⟨u0, u1⟩⟩, (r0)⟩, r2⟩, r1⟩, r3⟩
theorem okE_5 {e : Ed} (h : e.kind = 5) : okE e = (nameOkL e.box.data.toList && (okS e.set) && (((((([] == e.dst.toList) && decide ((0 : Int) = e.how)) && decide ((0 : Int) = e.bits)) && decide ((0 : Int) = e.since)) && ([] == e.text.toList)))) := by
  unfold okE
  rw [if_neg (show ¬ e.kind = 1 by rw [h]; decide), if_neg (show ¬ e.kind = 2 by rw [h]; decide), if_neg (show ¬ e.kind = 3 by rw [h]; decide), if_neg (show ¬ e.kind = 4 by rw [h]; decide), if_pos h]
theorem both_5 (e : Ed) : ((((nameOkL e.box.data.toList && (((((([] == e.dst.toList) && decide ((0 : Int) = e.how)) && decide ((0 : Int) = e.bits)) && decide ((0 : Int) = e.since)) && ([] == e.text.toList)))) && okS e.set) && flOk e.bits)) = (nameOkL e.box.data.toList && (okS e.set) && (((((([] == e.dst.toList) && decide ((0 : Int) = e.how)) && decide ((0 : Int) = e.bits)) && decide ((0 : Int) = e.since)) && ([] == e.text.toList)))) := by
  rw [Bool.eq_iff_iff]
  simp only [Bool.and_eq_true, decide_eq_true_eq]
  constructor
  · rintro ⟨⟨⟨p0, ⟨⟨⟨⟨u0, u1⟩, u2⟩, u3⟩, u4⟩⟩, pS⟩, pF⟩
    exact ⟨⟨p0, pS⟩, ⟨⟨⟨⟨u0, u1⟩, u2⟩, u3⟩, u4⟩⟩
  · rintro ⟨⟨p0, r0⟩, ⟨⟨⟨⟨u0, u1⟩, u2⟩, u3⟩, u4⟩⟩
    exact ⟨⟨⟨p0, ⟨⟨⟨⟨u0, u1⟩, u2⟩, u3⟩, u4⟩⟩, (r0)⟩, (by rw [← u2]; rfl)⟩
theorem okE_6 {e : Ed} (h : e.kind = 6) : okE e = (nameOkL e.box.data.toList && ((okS e.set && nameOkL e.dst.data.toList)) && ((((decide ((0 : Int) = e.how) && decide ((0 : Int) = e.bits)) && decide ((0 : Int) = e.since)) && ([] == e.text.toList)))) := by
  unfold okE
  rw [if_neg (show ¬ e.kind = 1 by rw [h]; decide), if_neg (show ¬ e.kind = 2 by rw [h]; decide), if_neg (show ¬ e.kind = 3 by rw [h]; decide), if_neg (show ¬ e.kind = 4 by rw [h]; decide), if_neg (show ¬ e.kind = 5 by rw [h]; decide), if_pos h]
theorem both_6 (e : Ed) : (((((nameOkL e.box.data.toList && ((((decide ((0 : Int) = e.how) && decide ((0 : Int) = e.bits)) && decide ((0 : Int) = e.since)) && ([] == e.text.toList)))) && okS e.set) && flOk e.bits) && nameOkL e.dst.data.toList)) = (nameOkL e.box.data.toList && ((okS e.set && nameOkL e.dst.data.toList)) && ((((decide ((0 : Int) = e.how) && decide ((0 : Int) = e.bits)) && decide ((0 : Int) = e.since)) && ([] == e.text.toList)))) := by
  rw [Bool.eq_iff_iff]
  simp only [Bool.and_eq_true, decide_eq_true_eq]
  constructor
  · rintro ⟨⟨⟨⟨p0, ⟨⟨⟨u0, u1⟩, u2⟩, u3⟩⟩, pS⟩, pF⟩, q0⟩
    exact ⟨⟨p0, ⟨pS, q0⟩⟩, ⟨⟨⟨u0, u1⟩, u2⟩, u3⟩⟩
  · rintro ⟨⟨p0, ⟨r0, r1⟩⟩, ⟨⟨⟨u0, u1⟩, u2⟩, u3⟩⟩
    exact ⟨⟨⟨⟨p0, ⟨⟨⟨u0, u1⟩, u2⟩, u3⟩⟩, (r0)⟩, (by rw [← u1]; rfl)⟩, r1⟩
theorem okE_7 {e : Ed} (h : e.kind = 7) : okE e = (nameOkL e.box.data.toList && ((okS e.set && nameOkL e.dst.data.toList)) && ((((decide ((0 : Int) = e.how) && decide ((0 : Int) = e.bits)) && decide ((0 : Int) = e.since)) && ([] == e.text.toList)))) := by
  unfold okE
  rw [if_neg (show ¬ e.kind = 1 by rw [h]; decide), if_neg (show ¬ e.kind = 2 by rw [h]; decide), if_neg (show ¬ e.kind = 3 by rw [h]; decide), if_neg (show ¬ e.kind = 4 by rw [h]; decide), if_neg (show ¬ e.kind = 5 by rw [h]; decide), if_neg (show ¬ e.kind = 6 by rw [h]; decide), if_pos h]
theorem both_7 (e : Ed) : (((((nameOkL e.box.data.toList && ((((decide ((0 : Int) = e.how) && decide ((0 : Int) = e.bits)) && decide ((0 : Int) = e.since)) && ([] == e.text.toList)))) && okS e.set) && flOk e.bits) && nameOkL e.dst.data.toList)) = (nameOkL e.box.data.toList && ((okS e.set && nameOkL e.dst.data.toList)) && ((((decide ((0 : Int) = e.how) && decide ((0 : Int) = e.bits)) && decide ((0 : Int) = e.since)) && ([] == e.text.toList)))) := by
  rw [Bool.eq_iff_iff]
  simp only [Bool.and_eq_true, decide_eq_true_eq]
  constructor
  · rintro ⟨⟨⟨⟨p0, ⟨⟨⟨u0, u1⟩, u2⟩, u3⟩⟩, pS⟩, pF⟩, q0⟩
    exact ⟨⟨p0, ⟨pS, q0⟩⟩, ⟨⟨⟨u0, u1⟩, u2⟩, u3⟩⟩
  · rintro ⟨⟨p0, ⟨r0, r1⟩⟩, ⟨⟨⟨u0, u1⟩, u2⟩, u3⟩⟩
    exact ⟨⟨⟨⟨p0, ⟨⟨⟨u0, u1⟩, u2⟩, u3⟩⟩, (r0)⟩, (by rw [← u1]; rfl)⟩, r1⟩
theorem okE_8 {e : Ed} (h : e.kind = 8) : okE e = (nameOkL e.box.data.toList && (inI e.since 0 100000) && (((((([] == e.dst.toList) && decide (e.set.length = 0)) && decide ((0 : Int) = e.how)) && decide ((0 : Int) = e.bits)) && ([] == e.text.toList)))) := by
  unfold okE
  rw [if_neg (show ¬ e.kind = 1 by rw [h]; decide), if_neg (show ¬ e.kind = 2 by rw [h]; decide), if_neg (show ¬ e.kind = 3 by rw [h]; decide), if_neg (show ¬ e.kind = 4 by rw [h]; decide), if_neg (show ¬ e.kind = 5 by rw [h]; decide), if_neg (show ¬ e.kind = 6 by rw [h]; decide), if_neg (show ¬ e.kind = 7 by rw [h]; decide), if_pos h]
theorem both_8 (e : Ed) : (((((nameOkL e.box.data.toList && (((((([] == e.dst.toList) && decide (e.set.length = 0)) && decide ((0 : Int) = e.how)) && decide ((0 : Int) = e.bits)) && ([] == e.text.toList)))) && okS e.set) && flOk e.bits) && inI e.since 0 100000)) = (nameOkL e.box.data.toList && (inI e.since 0 100000) && (((((([] == e.dst.toList) && decide (e.set.length = 0)) && decide ((0 : Int) = e.how)) && decide ((0 : Int) = e.bits)) && ([] == e.text.toList)))) := by
  rw [Bool.eq_iff_iff]
  simp only [Bool.and_eq_true, decide_eq_true_eq]
  constructor
  · rintro ⟨⟨⟨⟨p0, ⟨⟨⟨⟨u0, u1⟩, u2⟩, u3⟩, u4⟩⟩, pS⟩, pF⟩, q0⟩
    exact ⟨⟨p0, q0⟩, ⟨⟨⟨⟨u0, u1⟩, u2⟩, u3⟩, u4⟩⟩
  · rintro ⟨⟨p0, r0⟩, ⟨⟨⟨⟨u0, u1⟩, u2⟩, u3⟩, u4⟩⟩
    exact ⟨⟨⟨⟨p0, ⟨⟨⟨⟨u0, u1⟩, u2⟩, u3⟩, u4⟩⟩, (okS_zero u1)⟩, (by rw [← u3]; rfl)⟩, r0⟩
end Plain
end Go.Proofs.YtocaljbimhjmgaaGreatDoor
