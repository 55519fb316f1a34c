/- An edit's bytes, plainly. Made by gen_edit.py. -/
import Derived.Test.YtecognggnbopaacDoorEdPlain
import Derived.Test.YtecognggnbopaacDoorTextsPlain
import Derived.Test.YtecognggnbopaacDoorVar
import Derived.Test.YtecognggnbopaacDoorFlagA
namespace Go.Proofs.YtecognggnbopaacDoor
open Go.RowKit Go.ChangeShapes Go.WideShapes Go.ChangeAt Go.Deep
open Plain
set_option linter.unusedVariables false
set_option linter.unusedSimpArgs false

namespace Plain
def oneB (n : Nat) : ByteArray := ⟨#[UInt8.ofNat n]⟩
def pairB (n m : Nat) : ByteArray := ⟨#[UInt8.ofNat n, UInt8.ofNat m]⟩
theorem two_one (n m : Nat) : pairB n m = oneB n ++ oneB m := rfl
def shB (s : ByteArray) : ByteArray := ⟨(varL s.size).toArray⟩ ++ s
def stB (l : List Rg) : ByteArray := ⟨(setTextL l).toArray⟩
def vaB (n : Nat) : ByteArray := ⟨(varL n).toArray⟩
def et1 (e : Ed) : ByteArray := oneB e.kind.toNat ++ shB e.box
def et2 (e : Ed) : ByteArray := et1 e ++ shB e.dst
def et3 (e : Ed) : ByteArray := et2 e ++ shB (stB e.set)
def et4 (e : Ed) : ByteArray := et3 e ++ oneB e.how.toNat
def et5 (e : Ed) : ByteArray := et4 e ++ oneB e.bits.toNat
def et6 (e : Ed) : ByteArray := et5 e ++ vaB (e.since + 1).toNat
def et7 (e : Ed) : ByteArray := et6 e ++ shB e.text
theorem et5_two (e : Ed) : et3 e ++ pairB e.how.toNat e.bits.toNat = et5 e := by unfold et5 et4; rw [two_one, ByteArray.append_assoc]
/-- What EditText answers. -/
def etV (e : Ed) : ByteArray × Bool := if okE e then (et7 e, true) else (⟨#[]⟩, false)
theorem etV_yes {e : Ed} (h : okE e = true) : etV e = (et7 e, true) := by unfold etV; rw [if_pos h]
theorem etV_no {e : Ed} (h : okE e = false) : etV e = (⟨#[]⟩, false) := by unfold etV; rw [if_neg (by rw [h]; decide)]
structure EdFit (e : Ed) : Prop where
  kind : 0 ≤ e.kind ∧ e.kind ≤ 8
  box : e.box.size ≤ 1000
  dst : e.dst.size ≤ 1000
  how : 0 ≤ e.how ∧ e.how ≤ 3
  bits : 0 ≤ e.bits ∧ e.bits ≤ 31
  since : -1 ≤ e.since ∧ e.since ≤ 100000
  text : e.text.size ≤ 1000
theorem name_size {s : ByteArray} (h : nameOkL s.data.toList = true) : s.size ≤ 1000 := by
  unfold nameOkL at h
  rw [Bool.and_eq_true, inI_iff] at h
  have h2 := h.2.2
  rw [Array.length_toList] at h2
  have : s.size = s.data.size := rfl
  omega
theorem mail_size {s : ByteArray} (h : mailOkL s.data.toList = true) : s.size ≤ 1000 := by
  unfold mailOkL at h
  simp only [Bool.and_eq_true, decide_eq_true_eq] at h
  have h2 := h.2.2
  rw [Array.length_toList] at h2
  have : s.size = s.data.size := rfl
  omega
theorem nil_size {s : ByteArray} (h : ([] == s.toList) = true) : s.size ≤ 1000 := by
  rw [ByteArray.toList_eq, beq_iff_eq] at h
  have h2 := congrArg List.length h
  rw [Array.length_toList] at h2
  have : s.size = s.data.size := rfl
  simp at h2
  omega
theorem fit_1 {e : Ed} (hk : e.kind = 1) (h : okE e = true) : EdFit e := by
  rw [okE_1 hk] at h
  simp only [Bool.and_eq_true, decide_eq_true_eq] at h
  obtain ⟨⟨p0, _⟩, ⟨⟨⟨⟨⟨u0, u1⟩, u2⟩, u3⟩, u4⟩, u5⟩⟩ := h
  exact ⟨by omega, name_size p0, nil_size u0, (by omega), (by omega), (by omega), nil_size u5⟩
theorem fit_2 {e : Ed} (hk : e.kind = 2) (h : okE e = true) : EdFit e := by
  rw [okE_2 hk] at h
  simp only [Bool.and_eq_true, decide_eq_true_eq] at h
  obtain ⟨⟨p0, _⟩, ⟨⟨⟨⟨⟨u0, u1⟩, u2⟩, u3⟩, u4⟩, u5⟩⟩ := h
  exact ⟨by omega, name_size p0, nil_size u0, (by omega), (by omega), (by omega), nil_size u5⟩
theorem fit_3 {e : Ed} (hk : e.kind = 3) (h : okE e = true) : EdFit e := by
  rw [okE_3 hk] at h
  simp only [Bool.and_eq_true, decide_eq_true_eq] at h
  obtain ⟨⟨p0, ⟨r0, r1⟩⟩, ⟨⟨⟨u0, u1⟩, u2⟩, u3⟩⟩ := h
  exact ⟨by omega, name_size p0, nil_size u0, (by omega), (by have q := r0; unfold flOk at q; simp at q; omega), (by omega), mail_size r1⟩
theorem fit_4 {e : Ed} (hk : e.kind = 4) (h : okE e = true) : EdFit e := by
  rw [okE_4 hk] at h
  simp only [Bool.and_eq_true, decide_eq_true_eq] at h
  obtain ⟨⟨p0, ⟨⟨⟨r0, r1⟩, r2⟩, r3⟩⟩, ⟨u0, u1⟩⟩ := h
  exact ⟨by omega, name_size p0, nil_size u0, (by rw [inI_iff] at r1; omega), (by have q := r2; unfold flOk at q; simp at q; omega), (by rw [inI_iff] at r3; omega), nil_size u1⟩
theorem fit_5 {e : Ed} (hk : e.kind = 5) (h : okE e = true) : EdFit e := by
  rw [okE_5 hk] at h
  simp only [Bool.and_eq_true, decide_eq_true_eq] at h
  obtain ⟨⟨p0, r0⟩, ⟨⟨⟨⟨u0, u1⟩, u2⟩, u3⟩, u4⟩⟩ := h
  exact ⟨by omega, name_size p0, nil_size u0, (by omega), (by omega), (by omega), nil_size u4⟩
theorem fit_6 {e : Ed} (hk : e.kind = 6) (h : okE e = true) : EdFit e := by
  rw [okE_6 hk] at h
  simp only [Bool.and_eq_true, decide_eq_true_eq] at h
  obtain ⟨⟨p0, ⟨r0, r1⟩⟩, ⟨⟨⟨u0, u1⟩, u2⟩, u3⟩⟩ := h
  exact ⟨by omega, name_size p0, name_size r1, (by omega), (by omega), (by omega), nil_size u3⟩
theorem fit_7 {e : Ed} (hk : e.kind = 7) (h : okE e = true) : EdFit e := by
  rw [okE_7 hk] at h
  simp only [Bool.and_eq_true, decide_eq_true_eq] at h
  obtain ⟨⟨p0, ⟨r0, r1⟩⟩, ⟨⟨⟨u0, u1⟩, u2⟩, u3⟩⟩ := h
  exact ⟨by omega, name_size p0, name_size r1, (by omega), (by omega), (by omega), nil_size u3⟩
theorem fit_8 {e : Ed} (hk : e.kind = 8) (h : okE e = true) : EdFit e := by
  rw [okE_8 hk] at h
  simp only [Bool.and_eq_true, decide_eq_true_eq] at h
  obtain ⟨⟨p0, r0⟩, ⟨⟨⟨⟨u0, u1⟩, u2⟩, u3⟩, u4⟩⟩ := h
  exact ⟨by omega, name_size p0, nil_size u0, (by omega), (by omega), (by rw [inI_iff] at r0; omega), nil_size u4⟩
theorem fit_ed {e : Ed} (h : okE e = true) : EdFit e := by
  cases hi : inI e.kind 1 8 with
  | false => rw [okE_no hi] at h; cases h
  | true =>
    rcases kinds hi with k | k | k | k | k | k | k | k
    · exact fit_1 k h
    · exact fit_2 k h
    · exact fit_3 k h
    · exact fit_4 k h
    · exact fit_5 k h
    · exact fit_6 k h
    · exact fit_7 k h
    · exact fit_8 k h
theorem mk_size (l : List UInt8) : (⟨l.toArray⟩ : ByteArray).size = l.length := List.size_toArray
theorem sh_size {s : ByteArray} (h : s.size ≤ 2000) : (shB s).size ≤ 2100 := by
  unfold shB
  rw [ByteArray.size_append]
  have := varL_length s.size
  have e := mk_size (varL s.size)
  omega
theorem va_size (n : Nat) : (vaB n).size ≤ 11 := by
  have := varL_length n
  have e := mk_size (varL n)
  unfold vaB
  omega
theorem st_size (l : List Rg) : (stB l).size ≤ 1680 := by
  have := text_len (s := l)
  have e := mk_size (setTextL l)
  unfold stB
  omega
structure EtSizes (e : Ed) : Prop where
  s0 : (oneB e.kind.toNat).size ≤ 2
  s1 : (shB e.box).size ≤ 2100
  s2 : (shB e.dst).size ≤ 2100
  s3 : (shB (stB e.set)).size ≤ 2100
  s4 : (oneB e.how.toNat).size ≤ 2
  s5 : (oneB e.bits.toNat).size ≤ 2
  s45 : (pairB e.how.toNat e.bits.toNat).size ≤ 2
  s6 : (vaB (e.since + 1).toNat).size ≤ 11
  s7 : (shB e.text).size ≤ 2100
  p1 : (et1 e).size ≤ 3000
  p2 : (et2 e).size ≤ 6000
  p3 : (et3 e).size ≤ 9000
  p4 : (et4 e).size ≤ 9010
  p5 : (et5 e).size ≤ 9020
  p6 : (et6 e).size ≤ 9100
theorem et_sizes {e : Ed} (h : EdFit e) : EtSizes e := by
  have s0 : (oneB e.kind.toNat).size ≤ 2 := by show 1 ≤ 2; omega
  have s4 : (oneB e.how.toNat).size ≤ 2 := by show 1 ≤ 2; omega
  have s5 : (oneB e.bits.toNat).size ≤ 2 := by show 1 ≤ 2; omega
  have s45 : (pairB e.how.toNat e.bits.toNat).size ≤ 2 := by show 2 ≤ 2; omega
  have s1 := sh_size (s := e.box) (by have := h.box; omega)
  have s2 := sh_size (s := e.dst) (by have := h.dst; omega)
  have s3 := sh_size (s := stB e.set) (by have := st_size e.set; omega)
  have s6 := va_size (e.since + 1).toNat
  have s7 := sh_size (s := e.text) (by have := h.text; omega)
  have p1 : (et1 e).size ≤ 3000 := by unfold et1; rw [ByteArray.size_append]; omega
  have p2 : (et2 e).size ≤ 6000 := by unfold et2; rw [ByteArray.size_append]; omega
  have p3 : (et3 e).size ≤ 9000 := by unfold et3; rw [ByteArray.size_append]; omega
  have p4 : (et4 e).size ≤ 9010 := by unfold et4; rw [ByteArray.size_append]; omega
  have p5 : (et5 e).size ≤ 9020 := by unfold et5; rw [ByteArray.size_append]; omega
  have p6 : (et6 e).size ≤ 9100 := by unfold et6; rw [ByteArray.size_append]; omega
  exact ⟨s0, s1, s2, s3, s4, s5, s45, s6, s7, p1, p2, p3, p4, p5, p6⟩
end Plain
theorem addS (s t : ByteArray) (h : s.size + t.size ≤ 20000) : ∀ y, binOp .add y (.string s) (.string t) = pure (.string (s ++ t)) := fun y => by
  simp [binOp, Op.stringOp]
  omega
end Go.Proofs.YtecognggnbopaacDoor
