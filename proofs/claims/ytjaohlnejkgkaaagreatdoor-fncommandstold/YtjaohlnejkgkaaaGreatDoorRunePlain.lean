/- Runes in a text, plainly: a byte below 128 is a rune of its own wherever it stands. Mails cut at their first line without anything. -/
import Derived.Test.YtjaohlnejkgkaaaGreatDoorPlainA
import Derived.Lib.OthersKept
namespace Go.Proofs.YtjaohlnejkgkaaaGreatDoor.Plain
open Go.RowKit
set_option linter.unusedVariables false

theorem getD_byte (s : ByteArray) (p : Nat) (h : p < s.size) : s.data.toList.getD p 0 = s[p]'h := by
  rw [List.getD_eq_getElem?_getD, Array.getElem?_toList, Array.getElem?_eq_getElem h]
  rfl
theorem get_byte (s : ByteArray) (p : Nat) (h : p < s.size) : s.get! p = s.data.toList.getD p 0 := by
  rw [getD_byte s p h]
  simp [ByteArray.get!, getElem!_pos, h]
  rfl
theorem cont_span {s : ByteArray} {p : Nat} (h : (decide (p < s.size) && (s.get! p).toNat / 64 == 2) = true) : p < s.size ∧ 128 ≤ (s.data.toList.getD p 0).toNat := by
  rw [Bool.and_eq_true, decide_eq_true_eq] at h
  refine ⟨h.1, ?_⟩
  rw [← get_byte s p h.1]
  have := h.2
  rw [beq_iff_eq] at this
  omega
/-- A rune that is not one byte below 128 has no such byte in it. -/
theorem decode_span (s : ByteArray) (p : Nat) (h : p < s.size) (ha : 128 ≤ (s.data.toList.getD p 0).toNat) :
    ∀ j, p ≤ j → j < p + (Utf8.decode s p).2 → j < s.size ∧ 128 ≤ (s.data.toList.getD j 0).toNat := by
  have h0 : ¬ (s.get! (p + 0)).toNat < 128 := by rw [Nat.add_zero, get_byte s p h]; omega
  have one : ∀ j, p ≤ j → j < p + 1 → j < s.size ∧ 128 ≤ (s.data.toList.getD j 0).toNat := by
    intro j h1 h2
    have e : j = p := by omega
    subst e
    exact ⟨h, ha⟩
  simp only [Utf8.decode]
  rw [if_neg h0]
  split
  · rename_i hc
    rw [Bool.and_eq_true] at hc
    have c1 := cont_span hc.2
    split
    · intro j h1 h2
      rcases (show j = p ∨ j = p + 1 by omega) with e | e <;> subst e
      · exact ⟨h, ha⟩
      · exact c1
    · exact one
  · split
    · rename_i hc
      rw [Bool.and_eq_true, Bool.and_eq_true] at hc
      have c1 := cont_span hc.1.2
      have c2 := cont_span hc.2
      split
      · intro j h1 h2
        rcases (show j = p ∨ j = p + 1 ∨ j = p + 2 by omega) with e | e | e <;> subst e
        · exact ⟨h, ha⟩
        · exact c1
        · exact c2
      · exact one
    · split
      · rename_i hc
        rw [Bool.and_eq_true, Bool.and_eq_true, Bool.and_eq_true] at hc
        have c1 := cont_span hc.1.1.2
        have c2 := cont_span hc.1.2
        have c3 := cont_span hc.2
        split
        · intro j h1 h2
          rcases (show j = p ∨ j = p + 1 ∨ j = p + 2 ∨ j = p + 3 by omega) with e | e | e | e <;> subst e
          · exact ⟨h, ha⟩
          · exact c1
          · exact c2
          · exact c3
        · exact one
      · exact one
/-- The step at a place: its rune's number, and where the next one begins. -/
theorem rune_step (s : ByteArray) (p : Nat) (h : p < s.size) :
    ((s.data.toList.getD p 0).toNat < 128 ∧ (Utf8.decode s p) = ((s.data.toList.getD p 0).toNat, 1)) ∨
    (128 ≤ (Utf8.decode s p).1 ∧ 1 ≤ (Utf8.decode s p).2 ∧ ∀ j, p ≤ j → j < p + (Utf8.decode s p).2 → j < s.size ∧ 128 ≤ (s.data.toList.getD j 0).toNat) := by
  by_cases ha : (s.data.toList.getD p 0).toNat < 128
  · refine .inl ⟨ha, ?_⟩
    rw [getD_byte s p h] at ha ⊢
    exact decode_ascii s p h ha
  · have hb : 128 ≤ (s[p]'h).toNat := by rw [← getD_byte s p h]; omega
    exact .inr ⟨(decode_high s p h hb).1, (decode_high s p h hb).2, decode_span s p h (by omega)⟩
/-- Ahead of the first line without anything. -/
def headsFrom : Bool → List UInt8 → List UInt8
  | _, [] => []
  | s, b :: r => if b = 10 then (if s then [] else b :: headsFrom true r) else b :: headsFrom false r
/-- Going over bytes that end no line. -/
theorem over_heads : ∀ (m l : List UInt8) (s : Bool), m ≠ [] → (∀ b ∈ m, b ≠ 10) → headsFrom s (m ++ l) = m ++ headsFrom false l ∧ bodyFrom s (m ++ l) = bodyFrom false l := by
  intro m
  induction m with
  | nil => intro l s h; exact absurd rfl h
  | cons b r ih =>
    intro l s _ hb
    have hb0 : b ≠ 10 := hb b (by simp)
    rw [List.cons_append, headsFrom, if_neg hb0, bodyFrom, if_neg hb0]
    by_cases hr : r = []
    · subst hr
      simp
    · obtain ⟨h1, h2⟩ := ih l false hr (fun x hx => hb x (by simp [hx]))
      rw [h1, h2]
      exact ⟨rfl, rfl⟩
theorem drop_at {l : List UInt8} {p : Nat} (h : p < l.length) : l.drop p = l.getD p 0 :: l.drop (p + 1) := by
  rw [List.drop_eq_getElem_cons h, List.getD_eq_getElem?_getD, List.getElem?_eq_getElem h]
  rfl
/-- What is still to be looked at of a mail, at a place where a rune begins. -/
structure CutI (l : List UInt8) (p : Nat) (s : Bool) : Prop where
  le : p ≤ l.length
  heads : headsFrom true l = l.take p ++ headsFrom s (l.drop p)
  body : bodyL l = bodyFrom s (l.drop p)
theorem CutI.zero (l : List UInt8) : CutI l 0 true := ⟨Nat.zero_le _, by simp, rfl⟩
theorem CutI.end_ {l : List UInt8} {p : Nat} {s : Bool} (h : CutI l p s) (hp : ¬ p < l.length) : headsFrom true l = l ∧ bodyL l = [] := by
  have e : l.drop p = [] := List.drop_of_length_le (by omega)
  have h1 := h.heads
  have h2 := h.body
  rw [e] at h1 h2
  rw [List.take_of_length_le (by omega)] at h1
  exact ⟨by rw [h1]; simp [headsFrom], h2⟩
theorem CutI.here {l : List UInt8} {p : Nat} (h : CutI l p true) (hp : p < l.length) (hb : l.getD p 0 = 10) : headsFrom true l = l.take p ∧ bodyL l = l.drop (p + 1) := by
  have h1 := h.heads
  have h2 := h.body
  rw [drop_at hp, hb] at h1 h2
  exact ⟨by rw [h1]; simp [headsFrom], by rw [h2]; simp [bodyFrom]⟩
theorem take_next {l : List UInt8} {p : Nat} (h : p < l.length) : l.take (p + 1) = l.take p ++ [l.getD p 0] := by
  rw [List.take_add_one, List.getElem?_eq_getElem h, List.getD_eq_getElem?_getD, List.getElem?_eq_getElem h]
  rfl
theorem CutI.line {l : List UInt8} {p : Nat} (h : CutI l p false) (hp : p < l.length) (hb : l.getD p 0 = 10) : CutI l (p + 1) true := by
  refine ⟨by omega, ?_, ?_⟩
  · rw [h.heads, drop_at hp, take_next hp, hb]
    simp [headsFrom]
  · rw [h.body, drop_at hp, hb]
    simp [bodyFrom]
theorem CutI.over {l : List UInt8} {p : Nat} {s : Bool} (h : CutI l p s) (d : Nat) (hd : 1 ≤ d) (hp : p + d ≤ l.length) (hb : ∀ j, p ≤ j → j < p + d → l.getD j 0 ≠ 10) : CutI l (p + d) false := by
  have e : l.drop p = (l.drop p).take d ++ l.drop (p + d) := by
    rw [← List.drop_drop, List.take_append_drop]
  have hm : ∀ b ∈ (l.drop p).take d, b ≠ 10 := by
    intro b hb2
    obtain ⟨k, hk, rfl⟩ := List.getElem_of_mem hb2
    have hk2 : k < d := by have := hk; simp at this; omega
    have h3 := hb (p + k) (by omega) (by omega)
    rw [List.getD_eq_getElem?_getD, List.getElem?_eq_getElem (by omega)] at h3
    simpa using h3
  have hne : (l.drop p).take d ≠ [] := by
    intro h0
    have := congrArg List.length h0
    simp at this
    omega
  obtain ⟨h1, h2⟩ := over_heads ((l.drop p).take d) (l.drop (p + d)) s hne hm
  rw [← e] at h1 h2
  refine ⟨hp, ?_, ?_⟩
  · rw [h.heads, h1, ← List.append_assoc]
    congr 1
    rw [List.take_add]
  · rw [h.body, h2]
/-- The first line that tells. -/
def firstIn (name : List UInt8) : List (List UInt8) → List UInt8 × Bool
  | [] => ([], false)
  | p :: r => if name.length < p.length ∧ (p.take name.length).map lowB = name.map lowB ∧ p[name.length]? = some 58 then (trimL (p.drop (name.length + 1)), true) else firstIn name r
theorem first_nil (name : List UInt8) (r : List (List UInt8)) : firstIn name ([] :: r) = firstIn name r := by
  rw [firstIn, if_neg (by simp)]
theorem head_nil (name : List UInt8) (r : List (List UInt8)) : headIn name ([] :: r) = ([], false) := by
  rw [headIn, if_pos rfl]
theorem head_cons {name p : List UInt8} {b : UInt8} {ps qs : List (List UInt8)} (h : headIn name ps = firstIn name qs) : headIn name ((b :: p) :: ps) = firstIn name ((b :: p) :: qs) := by
  rw [headIn, if_neg (by simp), firstIn, h]
theorem cuts_cons (b : UInt8) (hb : b ≠ 10) {l p : List UInt8} {ps : List (List UInt8)} (h : cutsL 10 l = p :: ps) : cutsL 10 (b :: l) = (b :: p) :: ps := by
  rw [cutsL, if_neg hb, h]
theorem cuts_line (l : List UInt8) : cutsL 10 (10 :: l) = [] :: cutsL 10 l := by rw [cutsL, if_pos rfl]
theorem head_first_both (name : List UInt8) : ∀ (n : Nat) (l : List UInt8), l.length ≤ n →
    (∃ p ps qs, cutsL 10 l = p :: ps ∧ cutsL 10 (headsFrom false l) = p :: qs ∧ headIn name ps = firstIn name qs) ∧ headIn name (cutsL 10 l) = firstIn name (cutsL 10 (headsFrom true l)) := by
  intro n
  induction n with
  | zero =>
    intro l hl
    have e : l = [] := List.length_eq_zero_iff.1 (by omega)
    subst e
    exact ⟨⟨[], [], [], rfl, rfl, rfl⟩, by simp [headsFrom, cutsL, headIn, firstIn]⟩
  | succ n ih =>
    intro l hl
    cases l with
    | nil => exact ⟨⟨[], [], [], rfl, rfl, rfl⟩, by simp [headsFrom, cutsL, headIn, firstIn]⟩
    | cons b r =>
      have hr : r.length ≤ n := by simpa using hl
      obtain ⟨⟨p, ps, qs, h1, h2, h3⟩, hQ⟩ := ih r hr
      by_cases hb : b = 10
      · subst hb
        refine ⟨⟨[], cutsL 10 r, cutsL 10 (headsFrom true r), cuts_line r, ?_, hQ⟩, ?_⟩
        · rw [headsFrom, if_pos rfl, if_neg (by decide), cuts_line]
        · rw [cuts_line, head_nil, headsFrom, if_pos rfl, if_pos rfl]
          simp [cutsL, firstIn]
      · refine ⟨⟨b :: p, ps, qs, cuts_cons b hb h1, ?_, h3⟩, ?_⟩
        · rw [headsFrom, if_neg hb]
          exact cuts_cons b hb h2
        · rw [cuts_cons b hb h1, headsFrom, if_neg hb, cuts_cons b hb h2]
          exact head_cons h3
theorem headL_first (t name : List UInt8) : headL t name = firstIn name (cutsL 10 (headsFrom true t)) := (head_first_both name t.length t (Nat.le_refl _)).2
end Go.Proofs.YtjaohlnejkgkaaaGreatDoor.Plain
