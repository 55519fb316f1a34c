/- Boxes, plainly: a right box in other words; what is done to it leaves it right. -/
import Derived.Test.YtfemplekibpfoacAddMailS
import Derived.Test.YtfemplekibpfoacForgetS
import Derived.Test.YtfemplekibpfoacExpungePlain
namespace Go.Proofs.Ytfemplekibpfoac.Plain
open Go.RowKit
set_option linter.unusedVariables false

def TombLt (x y : Tb) : Prop := x.mod < y.mod ∨ (x.mod = y.mod ∧ x.uid < y.uid)
theorem TombLt.trans {x y z : Tb} (h1 : TombLt x y) (h2 : TombLt y z) : TombLt x z := by
  unfold TombLt at *
  omega
theorem near_all {α : Type} {R : α → α → Prop} (ht : ∀ x y z, R x y → R y z → R x z) {l : List α} (h : ∀ i (h1 : i < l.length) (h2 : i + 1 < l.length), R l[i] l[i + 1]) : l.Pairwise R := by
  rw [List.pairwise_iff_getElem]
  intro i j hi hj hij
  induction j with
  | zero => omega
  | succ j ih =>
    by_cases e : i = j
    · subst e; exact h i hi hj
    · exact ht _ _ _ (ih (by omega) (by omega)) (h j (by omega) hj)
structure MailR (b : Bx) (m : Ml) : Prop where
  u1 : 1 ≤ m.uid
  u2 : m.uid ≤ b.next - 1
  fl : flOk m.flags = true
  m1 : 1 ≤ m.mod
  m2 : m.mod ≤ b.mod
  tx : mailOkL m.text.data.toList = true
structure TombR (b : Bx) (t : Tb) : Prop where
  u1 : 1 ≤ t.uid
  u2 : t.uid ≤ b.next - 1
  m1 : b.hor < t.mod
  m2 : t.mod ≤ b.mod
  no : ∀ m ∈ b.mails, m.uid ≠ t.uid
structure Right (b : Bx) : Prop where
  head : headOk b = true
  mail : ∀ m ∈ b.mails, MailR b m
  asc : b.mails.Pairwise (fun x y => x.uid < y.uid)
  tomb : ∀ t ∈ b.tombs, TombR b t
  tasc : b.tombs.Pairwise TombLt
  tne : b.tombs.Pairwise (fun x y => x.uid ≠ y.uid)
theorem has_not {l : List Ml} {u : Int} : (!hasUid l u) = true ↔ ∀ m ∈ l, m.uid ≠ u := by
  unfold hasUid
  rw [Bool.not_eq_true', List.any_eq_false]
  simp
theorem right_of {b : Bx} (h : boxOk b = true) : Right b := by
  obtain ⟨h0, h1, h2⟩ := boxOk_iff.1 h
  have P : ∀ i (hi : i < b.mails.length), MailR b b.mails[i] ∧ (∀ q, before b.mails i = some q → q.uid < b.mails[i].uid) := by
    intro i hi
    have e := h1 i hi
    rw [mailAt_is (List.getElem?_eq_getElem hi)] at e
    unfold mailRight at e
    simp only [Bool.and_eq_true] at e
    obtain ⟨e1, e2, e3, e4, e5⟩ := e
    refine ⟨⟨(inI_iff.1 e1).1, (inI_iff.1 e1).2, e3, (inI_iff.1 e4).1, (inI_iff.1 e4).2, e5⟩, fun q hq => ?_⟩
    rw [hq] at e2
    exact of_decide_eq_true e2
  have T : ∀ i (hi : i < b.tombs.length), TombR b b.tombs[i] ∧ (∀ q ∈ b.tombs.take i, q.uid ≠ b.tombs[i].uid) ∧ (∀ q, before b.tombs i = some q → TombLt q b.tombs[i]) := by
    intro i hi
    have e := h2 i hi
    rw [tombAt_is (List.getElem?_eq_getElem hi)] at e
    unfold tombRight at e
    simp only [Bool.and_eq_true] at e
    obtain ⟨e1, e2, e3, e4, e5, e6⟩ := e
    refine ⟨⟨(inI_iff.1 e1).1, (inI_iff.1 e1).2, of_decide_eq_true e2, of_decide_eq_true e3, has_not.1 e4⟩, fun q hq => ?_, fun q hq => ?_⟩
    · have := List.all_eq_true.1 e5 q hq
      simpa using this
    · rw [hq] at e6
      unfold tombLess at e6
      simp only [Bool.or_eq_true, Bool.and_eq_true, decide_eq_true_eq] at e6
      exact e6
  refine ⟨h0, fun m hm => ?_, ?_, fun t ht => ?_, ?_, ?_⟩
  · obtain ⟨i, hi, rfl⟩ := List.getElem_of_mem hm
    exact (P i hi).1
  · refine near_all (fun x y z h1 h2 => by omega) (fun i hi hj => (P (i + 1) hj).2 _ ?_)
    show b.mails[i]? = _
    exact List.getElem?_eq_getElem hi
  · obtain ⟨i, hi, rfl⟩ := List.getElem_of_mem ht
    exact (T i hi).1
  · refine near_all (fun x y z h1 h2 => h1.trans h2) (fun i hi hj => (T (i + 1) hj).2.2 _ ?_)
    show b.tombs[i]? = _
    exact List.getElem?_eq_getElem hi
  · rw [List.pairwise_iff_getElem]
    intro i j hi hj hij
    exact (T j hj).2.1 _ (List.mem_take_iff_getElem.2 ⟨i, by omega, rfl⟩)
theorem Right.ok {b : Bx} (h : Right b) : boxOk b = true := by
  refine boxOk_all h.head (fun i hi => ?_) (fun i hi => ?_)
  · have hm := h.mail _ (List.getElem_mem hi)
    rw [mailAt_is (List.getElem?_eq_getElem hi)]
    unfold mailRight
    simp only [Bool.and_eq_true]
    refine ⟨inI_iff.2 ⟨hm.u1, hm.u2⟩, ?_, hm.fl, inI_iff.2 ⟨hm.m1, hm.m2⟩, hm.tx⟩
    cases i with
    | zero => rfl
    | succ i =>
      show (match b.mails[i]? with | none => true | some q => decide (q.uid < b.mails[i + 1].uid)) = true
      rw [List.getElem?_eq_getElem (by omega)]
      exact decide_eq_true ((List.pairwise_iff_getElem.1 h.asc) i (i + 1) (by omega) hi (by omega))
  · have ht := h.tomb _ (List.getElem_mem hi)
    rw [tombAt_is (List.getElem?_eq_getElem hi)]
    unfold tombRight
    simp only [Bool.and_eq_true]
    refine ⟨inI_iff.2 ⟨ht.u1, ht.u2⟩, decide_eq_true ht.m1, decide_eq_true ht.m2, has_not.2 ht.no, ?_, ?_⟩
    · rw [List.all_eq_true]
      intro q hq
      obtain ⟨k, hk, rfl⟩ := List.mem_take_iff_getElem.1 hq
      have := (List.pairwise_iff_getElem.1 h.tne) k i (by omega) hi (by omega)
      simpa using this
    · cases i with
      | zero => rfl
      | succ i =>
        show (match b.tombs[i]? with | none => true | some q => tombLess q b.tombs[i + 1]) = true
        rw [List.getElem?_eq_getElem (by omega)]
        have := (List.pairwise_iff_getElem.1 h.tasc) i (i + 1) (by omega) hi (by omega)
        unfold TombLt at this
        show tombLess _ _ = true
        unfold tombLess
        simp only [Bool.or_eq_true, Bool.and_eq_true, decide_eq_true_eq]
        exact this
theorem fit_ok {b : Bx} (h : boxOk b = true) : FitBx b := by
  have hr := right_of h
  obtain ⟨p1, p2, p3, p4, p5, p6, p7⟩ := head_parts hr.head
  refine ⟨?_, Nat.le_trans p5 (by decide), fun m hm => ?_, Nat.le_trans p6 (by decide)⟩
  · unfold nameOkL at p1
    rw [Bool.and_eq_true] at p1
    have := (inI_iff.1 p1.2).2
    rw [show b.name.size = b.name.data.toList.length from by show b.name.data.size = _; rw [Array.length_toList]]
    omega
  · have := (hr.mail m hm).tx
    unfold mailOkL at this
    simp only [Bool.and_eq_true, decide_eq_true_eq] at this
    rw [show m.text.size = m.text.data.toList.length from by show m.text.data.size = _; rw [Array.length_toList]]
    omega
theorem add_keeps {b : Bx} {f : Int} {t : ByteArray} (h : boxOk b = true) : boxOk (addV b f t).1 = true := by
  unfold addV
  split
  · rename_i x; exact x.2
  · exact h
theorem flags_keeps {b : Bx} {s : List Rg} {how bits since : Int} (h : boxOk b = true) : boxOk (flagsV b s how bits since).1 = true := by
  unfold flagsV
  split
  · rename_i x; exact x.2
  · exact h
theorem exp_keeps {b : Bx} {s : List Rg} (h : boxOk b = true) : boxOk (expV b s).1 = true := by
  unfold expV
  split
  · rename_i x; exact x.2.2
  · exact h
theorem forgot_right {b : Bx} {u : Int} (h : boxOk b = true) (hu : inI u 0 b.mod = true) : boxOk (forgot b u) = true := by
  have hr := right_of h
  obtain ⟨p1, p2, p3, p4, p5, p6, p7⟩ := head_parts hr.head
  have q7 := inI_iff.1 p7
  have qu := inI_iff.1 hu
  refine Right.ok ⟨?_, fun m hm => ?_, hr.asc, fun t ht => ?_, hr.tasc.sublist List.filter_sublist, hr.tne.sublist List.filter_sublist⟩
  · unfold headOk forgot
    simp only [Bool.and_eq_true]
    refine ⟨p1, p2, p3, p4, decide_eq_true p5, decide_eq_true (Nat.le_trans (List.length_filter_le _ _) p6), inI_iff.2 ?_⟩
    split <;> omega
  · have := hr.mail m hm
    exact ⟨this.u1, this.u2, this.fl, this.m1, this.m2, this.tx⟩
  · have ht2 := List.mem_filter.1 ht
    have := hr.tomb t ht2.1
    have h3 := of_decide_eq_true ht2.2
    refine ⟨this.u1, this.u2, ?_, this.m2, this.no⟩
    show (if b.hor < u then u else b.hor) < t.mod
    have := this.m1
    split <;> omega
theorem forget_keeps {b : Bx} {u : Int} (h : boxOk b = true) : boxOk (forgetV b u) = true := by
  unfold forgetV
  split
  · rename_i x; exact forgot_right x.1 x.2
  · exact h
end Go.Proofs.Ytfemplekibpfoac.Plain
