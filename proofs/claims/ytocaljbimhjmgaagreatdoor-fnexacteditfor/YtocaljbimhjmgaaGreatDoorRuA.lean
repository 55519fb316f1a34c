/- Several texts in one. -/
import Derived.Test.YtocaljbimhjmgaaGreatDoorPlainA
import Derived.Lib.OthersKept
import Derived.Test.YtocaljbimhjmgaaGreatDoorFlagA
import Derived.Test.YtocaljbimhjmgaaGreatDoorEpA
namespace Go.Proofs.YtocaljbimhjmgaaGreatDoor.Plain
open Go.RowKit
set_option linter.unusedVariables false

theorem getD_byte (s : ByteArray) (p : Nat) (h : p < s.size) : s.data.toList.getD p 0 = s[p]'h := by
  rw [List.getD_eq_getElem?_getD, Array.getElem?_toList, Array.getElem?_eq_getElem h]
  rfl
theorem get_byte (s : ByteArray) (p : Nat) (h : p < s.size) : s.get! p = s.data.toList.getD p 0 := by
  rw [getD_byte s p h]
  simp [ByteArray.get!, getElem!_pos, h]
  rfl
theorem cont_span {s : ByteArray} {p : Nat} (h : (decide (p < s.size) && (s.get! p).toNat / 64 == 2) = true) : p < s.size ∧ 128 ≤ (s.data.toList.getD p 0).toNat := by
  rw [Bool.and_eq_true, decide_eq_true_eq] at h
  refine ⟨h.1, ?_⟩
  rw [← get_byte s p h.1]
  have := h.2
  rw [beq_iff_eq] at this
  omega
/-- A rune that is not one byte below 128 has no such byte in it. -/
theorem decode_span (s : ByteArray) (p : Nat) (h : p < s.size) (ha : 128 ≤ (s.data.toList.getD p 0).toNat) :
    ∀ j, p ≤ j → j < p + (Utf8.decode s p).2 → j < s.size ∧ 128 ≤ (s.data.toList.getD j 0).toNat := by
  have h0 : ¬ (s.get! (p + 0)).toNat < 128 := by rw [Nat.add_zero, get_byte s p h]; omega
  have one : ∀ j, p ≤ j → j < p + 1 → j < s.size ∧ 128 ≤ (s.data.toList.getD j 0).toNat := by
    intro j h1 h2
    have e : j = p := by omega
    subst e
    exact ⟨h, ha⟩
  simp only [Utf8.decode]
  rw [if_neg h0]
  split
  · rename_i hc
    rw [Bool.and_eq_true] at hc
    have c1 := cont_span hc.2
    split
    · intro j h1 h2
      rcases (show j = p ∨ j = p + 1 by omega) with e | e <;> subst e
      · exact ⟨h, ha⟩
      · exact c1
    · exact one
  · split
    · rename_i hc
      rw [Bool.and_eq_true, Bool.and_eq_true] at hc
      have c1 := cont_span hc.1.2
      have c2 := cont_span hc.2
      split
      · intro j h1 h2
        rcases (show j = p ∨ j = p + 1 ∨ j = p + 2 by omega) with e | e | e <;> subst e
        · exact ⟨h, ha⟩
        · exact c1
        · exact c2
      · exact one
    · split
      · rename_i hc
        rw [Bool.and_eq_true, Bool.and_eq_true, Bool.and_eq_true] at hc
        have c1 := cont_span hc.1.1.2
        have c2 := cont_span hc.1.2
        have c3 := cont_span hc.2
        split
        · intro j h1 h2
          rcases (show j = p ∨ j = p + 1 ∨ j = p + 2 ∨ j = p + 3 by omega) with e | e | e | e <;> subst e
          · exact ⟨h, ha⟩
          · exact c1
          · exact c2
          · exact c3
        · exact one
      · exact one
/-- The step at a place: its rune's number, and where the next one begins. -/
theorem rune_step (s : ByteArray) (p : Nat) (h : p < s.size) :
    ((s.data.toList.getD p 0).toNat < 128 ∧ (Utf8.decode s p) = ((s.data.toList.getD p 0).toNat, 1)) ∨
    (128 ≤ (Utf8.decode s p).1 ∧ 1 ≤ (Utf8.decode s p).2 ∧ ∀ j, p ≤ j → j < p + (Utf8.decode s p).2 → j < s.size ∧ 128 ≤ (s.data.toList.getD j 0).toNat) := by
  by_cases ha : (s.data.toList.getD p 0).toNat < 128
  · refine .inl ⟨ha, ?_⟩
    rw [getD_byte s p h] at ha ⊢
    exact decode_ascii s p h ha
  · have hb : 128 ≤ (s[p]'h).toNat := by rw [← getD_byte s p h]; omega
    exact .inr ⟨(decode_high s p h hb).1, (decode_high s p h hb).2, decode_span s p h (by omega)⟩
/-- Ahead of the first line without anything. -/
def headsFrom : Bool → List UInt8 → List UInt8
  | _, [] => []
  | s, b :: r => if b = 10 then (if s then [] else b :: headsFrom true r) else b :: headsFrom false r
/-- Going over bytes that end no line. -/
theorem over_heads : ∀ (m l : List UInt8) (s : Bool), m ≠ [] → (∀ b ∈ m, b ≠ 10) → headsFrom s (m ++ l) = m ++ headsFrom false l ∧ bodyFrom s (m ++ l) = bodyFrom false l := by
  intro m
  induction m with
  | nil => intro l s h; exact absurd rfl h
  | cons b r ih =>
    intro l s _ hb
    have hb0 : b ≠ 10 := hb b (by simp)
    rw [List.cons_append, headsFrom, if_neg hb0, bodyFrom, if_neg hb0]
    by_cases hr : r = []
    · subst hr
      simp
    · obtain ⟨h1, h2⟩ := ih l false hr (fun x hx => hb x (by simp [hx]))
      rw [h1, h2]
      exact ⟨rfl, rfl⟩
theorem drop_at {l : List UInt8} {p : Nat} (h : p < l.length) : l.drop p = l.getD p 0 :: l.drop (p + 1) := by
  rw [List.drop_eq_getElem_cons h, List.getD_eq_getElem?_getD, List.getElem?_eq_getElem h]
  rfl
/-- What is still to be looked at of a mail, at a place where a rune begins. -/
structure CutI (l : List UInt8) (p : Nat) (s : Bool) : Prop where
  le : p ≤ l.length
  heads : headsFrom true l = l.take p ++ headsFrom s (l.drop p)
  body : bodyL l = bodyFrom s (l.drop p)
theorem CutI.zero (l : List UInt8) : CutI l 0 true := ⟨Nat.zero_le _, by simp, rfl⟩
theorem CutI.here {l : List UInt8} {p : Nat} (h : CutI l p true) (hp : p < l.length) (hb : l.getD p 0 = 10) : headsFrom true l = l.take p ∧ bodyL l = l.drop (p + 1) := by
  have h1 := h.heads
  have h2 := h.body
  rw [drop_at hp, hb] at h1 h2
  exact ⟨by rw [h1]; simp [headsFrom], by rw [h2]; simp [bodyFrom]⟩
theorem take_next {l : List UInt8} {p : Nat} (h : p < l.length) : l.take (p + 1) = l.take p ++ [l.getD p 0] := by
  rw [List.take_add_one, List.getElem?_eq_getElem h, List.getD_eq_getElem?_getD, List.getElem?_eq_getElem h]
  rfl
theorem CutI.line {l : List UInt8} {p : Nat} (h : CutI l p false) (hp : p < l.length) (hb : l.getD p 0 = 10) : CutI l (p + 1) true := by
  refine ⟨by omega, ?_, ?_⟩
  · rw [h.heads, drop_at hp, take_next hp, hb]
    simp [headsFrom]
  · rw [h.body, drop_at hp, hb]
    simp [bodyFrom]
theorem CutI.over {l : List UInt8} {p : Nat} {s : Bool} (h : CutI l p s) (d : Nat) (hd : 1 ≤ d) (hp : p + d ≤ l.length) (hb : ∀ j, p ≤ j → j < p + d → l.getD j 0 ≠ 10) : CutI l (p + d) false := by
  have e : l.drop p = (l.drop p).take d ++ l.drop (p + d) := by
    rw [← List.drop_drop, List.take_append_drop]
  have hm : ∀ b ∈ (l.drop p).take d, b ≠ 10 := by
    intro b hb2
    obtain ⟨k, hk, rfl⟩ := List.getElem_of_mem hb2
    have hk2 : k < d := by have := hk; simp at this; omega
    have h3 := hb (p + k) (by omega) (by omega)
    rw [List.getD_eq_getElem?_getD, List.getElem?_eq_getElem (by omega)] at h3
    simpa using h3
  have hne : (l.drop p).take d ≠ [] := by
    intro h0
    have := congrArg List.length h0
    simp at this
    omega
  obtain ⟨h1, h2⟩ := over_heads ((l.drop p).take d) (l.drop (p + d)) s hne hm
  rw [← e] at h1 h2
  refine ⟨hp, ?_, ?_⟩
  · rw [h.heads, h1, ← List.append_assoc]
    congr 1
    rw [List.take_add]
  · rw [h.body, h2]
end Go.Proofs.YtocaljbimhjmgaaGreatDoor.Plain

namespace Go.Proofs.YtocaljbimhjmgaaGreatDoor
open Go.RowKit
open Plain
set_option linter.unusedVariables false

namespace Plain
theorem all_over {t : List UInt8} {p d : Nat} (hp : p + d ≤ t.length) (ha : (t.take p).all (fun b => b != 0) = true) (hx : ∀ j, p ≤ j → j < p + d → t.getD j 0 ≠ 0) : (t.take (p + d)).all (fun b => b != 0) = true := by
  rw [List.take_add, List.all_append, ha, Bool.true_and, List.all_eq_true]
  intro b hb
  obtain ⟨k, hk, rfl⟩ := List.getElem_of_mem hb
  have hk2 : k < d := by have := hk; simp at this; omega
  have h3 := hx (p + k) (by omega) (by omega)
  rw [List.getD_eq_getElem?_getD, List.getElem?_eq_getElem (by omega)] at h3
  simpa using h3
theorem all_zero {t : List UInt8} {p : Nat} (hp : p < t.length) (h : t.getD p 0 = 0) : t.all (fun b => b != 0) = false := by
  refine all_no (k := p) ?_
  rw [List.getElem?_eq_getElem hp]
  rw [List.getD_eq_getElem?_getD, List.getElem?_eq_getElem hp] at h
  simpa using h
theorem mail_no {t : List UInt8} (h : t.all (fun b => b != 0) = false) : mailOkL t = false := by
  unfold mailOkL
  rw [h]
  rfl
theorem mail_in {t : List UInt8} (h : t.all (fun b => b != 0) = true) : mailOkL t = (decide (1 ≤ t.length) && decide (t.length ≤ 200)) := by
  unfold mailOkL
  rw [h]
  rfl
end Plain

set_option maxHeartbeats 2000000 in
set_option maxRecDepth 100000 in
theorem impl_MailOk_any (s : ByteArray) (w : World) (hs : s.size ≤ 1048576) :
    Calls Tryz.prog 174 #[.string s] w fun e w' => e = .returned (.bool (mailOkL s.data.toList)) ∧ Below w.heap.size w w' := by
  have BI : ∀ p, Hid (Below w.heap.size w (w.iter s p)) := fun p => (Below.refl _ w).alloc (Nat.le_refl _) _
  go_enter Tryz.func174, Tryz.ntmps174
  go_wp2
  go_loopw [4] (fun _ wr => ∃ p : Nat, p ≤ s.size ∧ wr = w.iter s p ∧ (s.data.toList.take p).all (fun b => b != 0) = true) (fun _ wr => s.size - wr.iterPos w.heap.size)
  case atStart => exact ⟨0, Nat.zero_le _, rfl, rfl⟩
  case round =>
    obtain ⟨p, hp, rfl, hall⟩ := hrel
    by_cases hlt : p < s.size
    · have hnx := fun ty => run_next_any (P := Tryz.prog) w s p ty hlt
      rcases rune_step s p hlt with ⟨hlo, hd⟩ | ⟨hhi, hd1, hsp⟩
      · rw [hd] at hnx
        simp only at hnx
        by_cases h0 : s.data.toList.getD p 0 = 0
        · have V := hide (mail_no (all_zero (t := s.data.toList) (show p < s.data.toList.length from hlt) h0))
          rw [h0] at hnx
          clear hall h0 hd hlo
          go_wp2
          go_ret
          exact ⟨by rw [unhide V]; rfl, unhide (BI _)⟩
        · have ST := hide (all_over (t := s.data.toList) (p := p) (d := 1) (show p + 1 ≤ s.size by omega) hall (fun j h1 h2 => by rw [show j = p by omega]; exact h0))
          have t0 : (((s.data.toList.getD p 0).toNat : Int) == 0) = false := by
            rw [beq_eq_false_iff_ne]
            intro e
            exact h0 (UInt8.toNat_inj.1 (by simpa using e))
          clear hall h0 hd hlo
          generalize (s.data.toList.getD p 0).toNat = x at *
          go_wp2
          go_roundw
          case rel => exact ⟨p + 1, by omega, rfl, unhide ST⟩
          case measure => simp only [World.iterPos_iter]; omega
      · have ST := hide (all_over (t := s.data.toList) (p := p) (d := (Utf8.decode s p).2) (by have := (hsp (p + (Utf8.decode s p).2 - 1) (by omega) (by omega)).1; show p + (Utf8.decode s p).2 ≤ s.size; omega) hall (fun j h1 h2 e => by have := (hsp j h1 h2).2; rw [e] at this; exact absurd this (by decide)))
        have hle : p + (Utf8.decode s p).2 ≤ s.size := by have := (hsp (p + (Utf8.decode s p).2 - 1) (by omega) (by omega)).1; omega
        clear hall hsp
        obtain ⟨r, hr⟩ : ∃ r, Utf8.decode s p = r := ⟨_, rfl⟩
        rw [hr] at hnx hhi hd1 ST hle
        clear hr
        obtain ⟨x, d⟩ := r
        simp only at hnx hhi hd1 ST hle
        have t0 : ((x : Int) == 0) = false := by rw [beq_eq_false_iff_ne]; omega
        go_wp2
        go_roundw
        case rel => exact ⟨p + d, by omega, rfl, unhide ST⟩
        case measure => simp only [World.iterPos_iter]; omega
    · have hnx := fun ty => run_next_end (P := Tryz.prog) w s p ty hlt
      rw [List.take_of_length_le (show s.data.toList.length ≤ p by show s.size ≤ p; omega)] at hall
      have V := hide (mail_in hall)
      rw [show s.data.toList.length = s.size from rfl] at V
      clear hall
      by_cases h1 : 1 ≤ s.size
      · have d1 : decide ((1 : Int) ≤ (s.size : Int)) = true := by rw [decide_eq_true_eq]; omega
        rw [decide_eq_true h1, Bool.true_and] at V
        by_cases h2 : s.size ≤ 200
        · have d2 : decide ((s.size : Int) ≤ 200) = true := by rw [decide_eq_true_eq]; omega
          rw [decide_eq_true h2] at V
          go_wp2
          go_ret
          exact ⟨by rw [unhide V]; rfl, unhide (BI _)⟩
        · have d2 : decide ((s.size : Int) ≤ 200) = false := by rw [decide_eq_false_iff_not]; omega
          rw [decide_eq_false h2] at V
          go_wp2
          go_ret
          exact ⟨by rw [unhide V]; rfl, unhide (BI _)⟩
      · have d1 : decide ((1 : Int) ≤ (s.size : Int)) = false := by rw [decide_eq_false_iff_not]; omega
        rw [decide_eq_false h1, Bool.false_and] at V
        go_wp2
        go_ret
        exact ⟨by rw [unhide V]; rfl, unhide (BI _)⟩

end Go.Proofs.YtocaljbimhjmgaaGreatDoor

namespace Go.Proofs.YtocaljbimhjmgaaGreatDoor
open Go.RowKit
open Plain
set_option linter.unusedVariables false

theorem impl_within_any (x l m : Int) (w : World) : Calls Tryz.prog 54 #[.int .i64 x, .int .i64 l, .int .i64 m] w fun e w' => e = .returned (.bool (inI x l m)) ∧ w' = w := by
  unfold inI
  by_cases h : l ≤ x
  · have hd : decide (l ≤ x) = true := by simpa using h
    by_cases h2 : x ≤ m
    · have hd2 : decide (x ≤ m) = true := by simpa using h2
      rw [hd, hd2]
      go_enter Tryz.func54, Tryz.ntmps54
      go_wp2
      go_ret
      exact ⟨rfl, rfl⟩
    · have hd2 : decide (x ≤ m) = false := by simpa using h2
      rw [hd, hd2]
      go_enter Tryz.func54, Tryz.ntmps54
      go_wp2
      go_ret
      exact ⟨rfl, rfl⟩
  · have hd : decide (l ≤ x) = false := by simpa using h
    rw [hd]
    go_enter Tryz.func54, Tryz.ntmps54
    go_wp2
    go_ret
    exact ⟨rfl, rfl⟩

namespace Plain
theorem name_bad {l : List UInt8} {p : Nat} (hp : p < l.length) (h : letter (l.getD p 0) = false) : nameOkL l = false :=
  name_no (i := p) (c := l.getD p 0) (by rw [List.getD_eq_getElem?_getD, List.getElem?_eq_getElem hp]; rfl) h
theorem name_good {l : List UInt8} (h : ∀ j, j < l.length → letter (l.getD j 0) = true) : nameOkL l = inI (l.length : Int) 1 8 :=
  name_yes fun i c hc => by
    have hi := (List.getElem?_eq_some_iff.1 hc).1
    have := h i hi
    rwa [List.getD_eq_getElem?_getD, hc] at this
theorem letter_no {c : UInt8} (h : c.toNat < 97 ∨ 122 < c.toNat) : letter c = false := by
  unfold letter
  rcases h with h | h
  · rw [decide_eq_false (by omega)]; rfl
  · rw [decide_eq_false (p := c.toNat ≤ 122) (by omega), Bool.and_false]
theorem letter_yes {c : UInt8} (h : 97 ≤ c.toNat) (h2 : c.toNat ≤ 122) : letter c = true := by
  unfold letter
  rw [decide_eq_true h, decide_eq_true h2]; rfl
end Plain

set_option maxHeartbeats 2000000 in
set_option maxRecDepth 100000 in
theorem impl_BoxName_any (s : ByteArray) (w : World) (hs : s.size ≤ 1048576) :
    Calls Tryz.prog 56 #[.string s] w fun e w' => e = .returned (.bool (nameOkL s.data.toList)) ∧ Below w.heap.size w w' := by
  have BI : ∀ p, Hid (Below w.heap.size w (w.iter s p)) := fun p => (Below.refl _ w).alloc (Nat.le_refl _) _
  go_enter Tryz.func56, Tryz.ntmps56
  go_wp2
  go_loopw [4] (fun _ wr => ∃ p : Nat, p ≤ s.size ∧ wr = w.iter s p ∧ ∀ j, j < p → letter (s.data.toList.getD j 0) = true) (fun _ wr => s.size - wr.iterPos w.heap.size)
  case atStart => exact ⟨0, Nat.zero_le _, rfl, fun j hj => by omega⟩
  case round =>
    obtain ⟨p, hp, rfl, hall⟩ := hrel
    by_cases hlt : p < s.size
    · have hnx := fun ty => run_next_any (P := Tryz.prog) w s p ty hlt
      rcases rune_step s p hlt with ⟨hlo, hd⟩ | ⟨hhi, hd1, hsp⟩
      · rw [hd] at hnx
        simp only at hnx
        have ST : Hid (letter (s.data.toList.getD p 0) = true → ∀ j, j < p + 1 → letter (s.data.toList.getD j 0) = true) := fun h j hj => by
          by_cases e : j = p
          · rw [e]; exact h
          · exact hall j (by omega)
        have NO : Hid (letter (s.data.toList.getD p 0) = false → nameOkL s.data.toList = false) := fun h => name_bad (show p < s.data.toList.length from hlt) h
        have L1 := hide (fun h => letter_no (c := s.data.toList.getD p 0) h)
        have L2 := hide (fun h h2 => letter_yes (c := s.data.toList.getD p 0) h h2)
        clear hall hd
        generalize (s.data.toList.getD p 0).toNat = x at *
        by_cases h0 : x < 97
        · have t0 : decide ((x : Int) < 97) = true := by rw [decide_eq_true_eq]; omega
          have V := hide (unhide NO (unhide L1 (.inl h0)))
          go_wp2
          go_ret
          exact ⟨by rw [unhide V]; rfl, unhide (BI _)⟩
        · have t0 : decide ((x : Int) < 97) = false := by rw [decide_eq_false_iff_not]; omega
          by_cases h1 : 122 < x
          · have t1 : decide ((122 : Int) < (x : Int)) = true := by rw [decide_eq_true_eq]; omega
            have V := hide (unhide NO (unhide L1 (.inr h1)))
            go_wp2
            go_ret
            exact ⟨by rw [unhide V]; rfl, unhide (BI _)⟩
          · have t1 : decide ((122 : Int) < (x : Int)) = false := by rw [decide_eq_false_iff_not]; omega
            have V := hide (unhide ST (unhide L2 (by omega) (by omega)))
            go_wp2
            go_roundw
            case rel => exact ⟨p + 1, by omega, rfl, unhide V⟩
            case measure => simp only [World.iterPos_iter]; omega
      · have V := hide (name_bad (l := s.data.toList) (p := p) hlt (letter_no (.inr (by have := (hsp p (Nat.le_refl _) (by omega)).2; omega))))
        clear hall hsp
        obtain ⟨r, hr⟩ : ∃ r, Utf8.decode s p = r := ⟨_, rfl⟩
        rw [hr] at hnx hhi hd1
        clear hr
        obtain ⟨x, d⟩ := r
        simp only at hnx hhi hd1
        have t0 : decide ((x : Int) < 97) = false := by rw [decide_eq_false_iff_not]; omega
        have t1 : decide ((122 : Int) < (x : Int)) = true := by rw [decide_eq_true_eq]; omega
        go_wp2
        go_ret
        exact ⟨by rw [unhide V]; rfl, unhide (BI _)⟩
    · have hnx := fun ty => run_next_end (P := Tryz.prog) w s p ty hlt
      have V := hide (name_good (l := s.data.toList) (fun j hj => hall j (by have : j < s.size := hj; omega)))
      rw [show s.data.toList.length = s.size from rfl] at V
      have Q := hide (impl_within_any (s.size : Int) 1 8 (w.iter s p))
      clear hall
      go_wp2_with fail
      refine (unhide Q).mono ?_
      rintro e w1 ⟨rfl, hw1⟩
      subst w1
      go_wp2
      go_ret
      exact ⟨by rw [unhide V]; rfl, unhide (BI _)⟩
end Go.Proofs.YtocaljbimhjmgaaGreatDoor
