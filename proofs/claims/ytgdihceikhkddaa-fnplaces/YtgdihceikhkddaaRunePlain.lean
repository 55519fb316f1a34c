/- Runes in a text, plainly: a byte below 128 is a rune of its own wherever it stands. Mails cut at their first line without anything. -/
import Derived.Test.YtgdihceikhkddaaPlainA
import Derived.Lib.OthersKept
namespace Go.Proofs.Ytgdihceikhkddaa.Plain
open Go.RowKit
set_option linter.unusedVariables false

/-- Ahead of the first line without anything. -/
def headsFrom : Bool → List UInt8 → List UInt8
 | _, [] => []
 | s, b :: r => if b = 10 then (if s then [] else b :: headsFrom true r) else b :: headsFrom false r
/-- Going over bytes that end no line. -/
theorem over_heads : ∀ (m l : List UInt8) (s : Bool), m ≠ [] → (∀ b ∈ m, b ≠ 10) → headsFrom s (m ++ l) = m ++ headsFrom false l ∧ bodyFrom s (m ++ l) = bodyFrom false l := by
 intro m
 induction m with
 | nil => intro l s h; exact absurd rfl h
 | cons b r ih =>
  intro l s _ hb
  have hb0 : b ≠ 10 := hb b (by simp)
  rw [List.cons_append, headsFrom, if_neg hb0, bodyFrom, if_neg hb0]
  by_cases hr : r = []
  ·subst hr
   simp
  ·obtain ⟨h1, h2⟩ := ih l false hr (fun x hx => hb x (by simp [hx]))
   rw [h1, h2]
   exact ⟨rfl, rfl⟩
theorem drop_at {l : List UInt8} {p : Nat} (h : p < l.length) : l.drop p = l.getD p 0 :: l.drop (p + 1) := by
 rw [List.drop_eq_getElem_cons h, List.getD_eq_getElem?_getD, List.getElem?_eq_getElem h]
 rfl
/-- What is still to be looked at of a mail, at a place where a rune begins. -/
structure CutI (l : List UInt8) (p : Nat) (s : Bool) : Prop where
 le : p ≤ l.length
 heads : headsFrom true l = l.take p ++ headsFrom s (l.drop p)
 body : bodyL l = bodyFrom s (l.drop p)
theorem CutI.zero (l : List UInt8) : CutI l 0 true := ⟨Nat.zero_le _, by simp, rfl⟩
theorem CutI.here {l : List UInt8} {p : Nat} (h : CutI l p true) (hp : p < l.length) (hb : l.getD p 0 = 10) : headsFrom true l = l.take p ∧ bodyL l = l.drop (p + 1) := by
 have h1 := h.heads; have h2 := h.body
 rw [drop_at hp, hb] at h1 h2
 exact ⟨by rw [h1]; simp [headsFrom], by rw [h2]; simp [bodyFrom]⟩
theorem take_next {l : List UInt8} {p : Nat} (h : p < l.length) : l.take (p + 1) = l.take p ++ [l.getD p 0] := by
 rw [List.take_add_one, List.getElem?_eq_getElem h, List.getD_eq_getElem?_getD, List.getElem?_eq_getElem h]
 rfl
theorem CutI.line {l : List UInt8} {p : Nat} (h : CutI l p false) (hp : p < l.length) (hb : l.getD p 0 = 10) : CutI l (p + 1) true := by
 refine ⟨by omega, ?_, ?_⟩
 ·rw [h.heads, drop_at hp, take_next hp, hb]
  simp [headsFrom]
 ·rw [h.body, drop_at hp, hb]
  simp [bodyFrom]
theorem CutI.over {l : List UInt8} {p : Nat} {s : Bool} (h : CutI l p s) (d : Nat) (hd : 1 ≤ d) (hp : p + d ≤ l.length) (hb : ∀ j, p ≤ j → j < p + d → l.getD j 0 ≠ 10) : CutI l (p + d) false := by
 have e : l.drop p = (l.drop p).take d ++ l.drop (p + d) := by
  rw [← List.drop_drop, List.take_append_drop]
 have hm : ∀ b ∈ (l.drop p).take d, b ≠ 10 := by
  intro b hb2
  obtain ⟨k, hk, rfl⟩ := List.getElem_of_mem hb2
  have hk2 : k < d := by have := hk; simp at this; omega
  have h3 := hb (p + k) (by omega) (by omega)
  rw [List.getD_eq_getElem?_getD, List.getElem?_eq_getElem (by omega)] at h3
  simpa using h3
 have hne : (l.drop p).take d ≠ [] := by
  intro h0
  have := congrArg List.length h0
  simp at this
  omega
 obtain ⟨h1, h2⟩ := over_heads ((l.drop p).take d) (l.drop (p + d)) s hne hm
 rw [← e] at h1 h2
 refine ⟨hp, ?_, ?_⟩
 ·rw [h.heads, h1, ← List.append_assoc]
  congr 1
  rw [List.take_add]
 ·rw [h.body, h2]
end Go.Proofs.Ytgdihceikhkddaa.Plain
