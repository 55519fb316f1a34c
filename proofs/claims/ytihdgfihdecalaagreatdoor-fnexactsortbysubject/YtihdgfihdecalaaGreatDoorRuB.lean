/- Several texts in one. -/
import Derived.Test.YtihdgfihdecalaaGreatDoorPlainA
import Derived.Lib.OthersKept
import Derived.Test.YtihdgfihdecalaaGreatDoorTlA
import Derived.Test.YtihdgfihdecalaaGreatDoorFlagA
import Derived.Test.YtihdgfihdecalaaGreatDoorCloneI
import Derived.Test.YtihdgfihdecalaaGreatDoorSpA
namespace Go.Proofs.YtihdgfihdecalaaGreatDoor.Plain
open Go.RowKit
set_option linter.unusedVariables false

theorem getD_byte (s : ByteArray) (p : Nat) (h : p < s.size) : s.data.toList.getD p 0 = s[p]'h := by
  rw [List.getD_eq_getElem?_getD, Array.getElem?_toList, Array.getElem?_eq_getElem h]
  rfl
theorem get_byte (s : ByteArray) (p : Nat) (h : p < s.size) : s.get! p = s.data.toList.getD p 0 := by
  rw [getD_byte s p h]
  simp [ByteArray.get!, getElem!_pos, h]
  rfl
theorem cont_span {s : ByteArray} {p : Nat} (h : (decide (p < s.size) && (s.get! p).toNat / 64 == 2) = true) : p < s.size ∧ 128 ≤ (s.data.toList.getD p 0).toNat := by
  rw [Bool.and_eq_true, decide_eq_true_eq] at h
  refine ⟨h.1, ?_⟩
  rw [← get_byte s p h.1]
  have := h.2
  rw [beq_iff_eq] at this
  omega
/-- A rune that is not one byte below 128 has no such byte in it. -/
theorem decode_span (s : ByteArray) (p : Nat) (h : p < s.size) (ha : 128 ≤ (s.data.toList.getD p 0).toNat) :
    ∀ j, p ≤ j → j < p + (Utf8.decode s p).2 → j < s.size ∧ 128 ≤ (s.data.toList.getD j 0).toNat := by
  have h0 : ¬ (s.get! (p + 0)).toNat < 128 := by rw [Nat.add_zero, get_byte s p h]; omega
  have one : ∀ j, p ≤ j → j < p + 1 → j < s.size ∧ 128 ≤ (s.data.toList.getD j 0).toNat := by
    intro j h1 h2
    have e : j = p := by omega
    subst e
    exact ⟨h, ha⟩
  simp only [Utf8.decode]
  rw [if_neg h0]
  split
  · rename_i hc
    rw [Bool.and_eq_true] at hc
    have c1 := cont_span hc.2
    split
    · intro j h1 h2
      rcases (show j = p ∨ j = p + 1 by omega) with e | e <;> subst e
      · exact ⟨h, ha⟩
      · exact c1
    · exact one
  · split
    · rename_i hc
      rw [Bool.and_eq_true, Bool.and_eq_true] at hc
      have c1 := cont_span hc.1.2
      have c2 := cont_span hc.2
      split
      · intro j h1 h2
        rcases (show j = p ∨ j = p + 1 ∨ j = p + 2 by omega) with e | e | e <;> subst e
        · exact ⟨h, ha⟩
        · exact c1
        · exact c2
      · exact one
    · split
      · rename_i hc
        rw [Bool.and_eq_true, Bool.and_eq_true, Bool.and_eq_true] at hc
        have c1 := cont_span hc.1.1.2
        have c2 := cont_span hc.1.2
        have c3 := cont_span hc.2
        split
        · intro j h1 h2
          rcases (show j = p ∨ j = p + 1 ∨ j = p + 2 ∨ j = p + 3 by omega) with e | e | e | e <;> subst e
          · exact ⟨h, ha⟩
          · exact c1
          · exact c2
          · exact c3
        · exact one
      · exact one
/-- The step at a place: its rune's number, and where the next one begins. -/
theorem rune_step (s : ByteArray) (p : Nat) (h : p < s.size) :
    ((s.data.toList.getD p 0).toNat < 128 ∧ (Utf8.decode s p) = ((s.data.toList.getD p 0).toNat, 1)) ∨
    (128 ≤ (Utf8.decode s p).1 ∧ 1 ≤ (Utf8.decode s p).2 ∧ ∀ j, p ≤ j → j < p + (Utf8.decode s p).2 → j < s.size ∧ 128 ≤ (s.data.toList.getD j 0).toNat) := by
  by_cases ha : (s.data.toList.getD p 0).toNat < 128
  · refine .inl ⟨ha, ?_⟩
    rw [getD_byte s p h] at ha ⊢
    exact decode_ascii s p h ha
  · have hb : 128 ≤ (s[p]'h).toNat := by rw [← getD_byte s p h]; omega
    exact .inr ⟨(decode_high s p h hb).1, (decode_high s p h hb).2, decode_span s p h (by omega)⟩
/-- Ahead of the first line without anything. -/
def headsFrom : Bool → List UInt8 → List UInt8
  | _, [] => []
  | s, b :: r => if b = 10 then (if s then [] else b :: headsFrom true r) else b :: headsFrom false r
/-- Going over bytes that end no line. -/
theorem over_heads : ∀ (m l : List UInt8) (s : Bool), m ≠ [] → (∀ b ∈ m, b ≠ 10) → headsFrom s (m ++ l) = m ++ headsFrom false l ∧ bodyFrom s (m ++ l) = bodyFrom false l := by
  intro m
  induction m with
  | nil => intro l s h; exact absurd rfl h
  | cons b r ih =>
    intro l s _ hb
    have hb0 : b ≠ 10 := hb b (by simp)
    rw [List.cons_append, headsFrom, if_neg hb0, bodyFrom, if_neg hb0]
    by_cases hr : r = []
    · subst hr
      simp
    · obtain ⟨h1, h2⟩ := ih l false hr (fun x hx => hb x (by simp [hx]))
      rw [h1, h2]
      exact ⟨rfl, rfl⟩
theorem drop_at {l : List UInt8} {p : Nat} (h : p < l.length) : l.drop p = l.getD p 0 :: l.drop (p + 1) := by
  rw [List.drop_eq_getElem_cons h, List.getD_eq_getElem?_getD, List.getElem?_eq_getElem h]
  rfl
/-- What is still to be looked at of a mail, at a place where a rune begins. -/
structure CutI (l : List UInt8) (p : Nat) (s : Bool) : Prop where
  le : p ≤ l.length
  heads : headsFrom true l = l.take p ++ headsFrom s (l.drop p)
  body : bodyL l = bodyFrom s (l.drop p)
theorem CutI.zero (l : List UInt8) : CutI l 0 true := ⟨Nat.zero_le _, by simp, rfl⟩
theorem CutI.end_ {l : List UInt8} {p : Nat} {s : Bool} (h : CutI l p s) (hp : ¬ p < l.length) : headsFrom true l = l ∧ bodyL l = [] := by
  have e : l.drop p = [] := List.drop_of_length_le (by omega)
  have h1 := h.heads
  have h2 := h.body
  rw [e] at h1 h2
  rw [List.take_of_length_le (by omega)] at h1
  exact ⟨by rw [h1]; simp [headsFrom], h2⟩
theorem CutI.here {l : List UInt8} {p : Nat} (h : CutI l p true) (hp : p < l.length) (hb : l.getD p 0 = 10) : headsFrom true l = l.take p ∧ bodyL l = l.drop (p + 1) := by
  have h1 := h.heads
  have h2 := h.body
  rw [drop_at hp, hb] at h1 h2
  exact ⟨by rw [h1]; simp [headsFrom], by rw [h2]; simp [bodyFrom]⟩
theorem take_next {l : List UInt8} {p : Nat} (h : p < l.length) : l.take (p + 1) = l.take p ++ [l.getD p 0] := by
  rw [List.take_add_one, List.getElem?_eq_getElem h, List.getD_eq_getElem?_getD, List.getElem?_eq_getElem h]
  rfl
theorem CutI.line {l : List UInt8} {p : Nat} (h : CutI l p false) (hp : p < l.length) (hb : l.getD p 0 = 10) : CutI l (p + 1) true := by
  refine ⟨by omega, ?_, ?_⟩
  · rw [h.heads, drop_at hp, take_next hp, hb]
    simp [headsFrom]
  · rw [h.body, drop_at hp, hb]
    simp [bodyFrom]
theorem CutI.over {l : List UInt8} {p : Nat} {s : Bool} (h : CutI l p s) (d : Nat) (hd : 1 ≤ d) (hp : p + d ≤ l.length) (hb : ∀ j, p ≤ j → j < p + d → l.getD j 0 ≠ 10) : CutI l (p + d) false := by
  have e : l.drop p = (l.drop p).take d ++ l.drop (p + d) := by
    rw [← List.drop_drop, List.take_append_drop]
  have hm : ∀ b ∈ (l.drop p).take d, b ≠ 10 := by
    intro b hb2
    obtain ⟨k, hk, rfl⟩ := List.getElem_of_mem hb2
    have hk2 : k < d := by have := hk; simp at this; omega
    have h3 := hb (p + k) (by omega) (by omega)
    rw [List.getD_eq_getElem?_getD, List.getElem?_eq_getElem (by omega)] at h3
    simpa using h3
  have hne : (l.drop p).take d ≠ [] := by
    intro h0
    have := congrArg List.length h0
    simp at this
    omega
  obtain ⟨h1, h2⟩ := over_heads ((l.drop p).take d) (l.drop (p + d)) s hne hm
  rw [← e] at h1 h2
  refine ⟨hp, ?_, ?_⟩
  · rw [h.heads, h1, ← List.append_assoc]
    congr 1
    rw [List.take_add]
  · rw [h.body, h2]
/-- The first line that tells. -/
def firstIn (name : List UInt8) : List (List UInt8) → List UInt8 × Bool
  | [] => ([], false)
  | p :: r => if name.length < p.length ∧ (p.take name.length).map lowB = name.map lowB ∧ p[name.length]? = some 58 then (trimL (p.drop (name.length + 1)), true) else firstIn name r
theorem head_nil (name : List UInt8) (r : List (List UInt8)) : headIn name ([] :: r) = ([], false) := by
  rw [headIn, if_pos rfl]
theorem head_cons {name p : List UInt8} {b : UInt8} {ps qs : List (List UInt8)} (h : headIn name ps = firstIn name qs) : headIn name ((b :: p) :: ps) = firstIn name ((b :: p) :: qs) := by
  rw [headIn, if_neg (by simp), firstIn, h]
theorem cuts_cons (b : UInt8) (hb : b ≠ 10) {l p : List UInt8} {ps : List (List UInt8)} (h : cutsL 10 l = p :: ps) : cutsL 10 (b :: l) = (b :: p) :: ps := by
  rw [cutsL, if_neg hb, h]
theorem cuts_line (l : List UInt8) : cutsL 10 (10 :: l) = [] :: cutsL 10 l := by rw [cutsL, if_pos rfl]
theorem head_first_both (name : List UInt8) : ∀ (n : Nat) (l : List UInt8), l.length ≤ n →
    (∃ p ps qs, cutsL 10 l = p :: ps ∧ cutsL 10 (headsFrom false l) = p :: qs ∧ headIn name ps = firstIn name qs) ∧ headIn name (cutsL 10 l) = firstIn name (cutsL 10 (headsFrom true l)) := by
  intro n
  induction n with
  | zero =>
    intro l hl
    have e : l = [] := List.length_eq_zero_iff.1 (by omega)
    subst e
    exact ⟨⟨[], [], [], rfl, rfl, rfl⟩, by simp [headsFrom, cutsL, headIn, firstIn]⟩
  | succ n ih =>
    intro l hl
    cases l with
    | nil => exact ⟨⟨[], [], [], rfl, rfl, rfl⟩, by simp [headsFrom, cutsL, headIn, firstIn]⟩
    | cons b r =>
      have hr : r.length ≤ n := by simpa using hl
      obtain ⟨⟨p, ps, qs, h1, h2, h3⟩, hQ⟩ := ih r hr
      by_cases hb : b = 10
      · subst hb
        refine ⟨⟨[], cutsL 10 r, cutsL 10 (headsFrom true r), cuts_line r, ?_, hQ⟩, ?_⟩
        · rw [headsFrom, if_pos rfl, if_neg (by decide), cuts_line]
        · rw [cuts_line, head_nil, headsFrom, if_pos rfl, if_pos rfl]
          simp [cutsL, firstIn]
      · refine ⟨⟨b :: p, ps, qs, cuts_cons b hb h1, ?_, h3⟩, ?_⟩
        · rw [headsFrom, if_neg hb]
          exact cuts_cons b hb h2
        · rw [cuts_cons b hb h1, headsFrom, if_neg hb, cuts_cons b hb h2]
          exact head_cons h3
theorem headL_first (t name : List UInt8) : headL t name = firstIn name (cutsL 10 (headsFrom true t)) := (head_first_both name t.length t (Nat.le_refl _)).2
end Go.Proofs.YtihdgfihdecalaaGreatDoor.Plain

namespace Go.Proofs.YtihdgfihdecalaaGreatDoor
open Go.RowKit
open Plain
set_option linter.unusedVariables false

namespace Plain
/-- What a line tells of a name in small letters. -/
def lineV (h line : List UInt8) : List UInt8 × Bool :=
  if h.length < line.length ∧ (line.take h.length).map lowB = h ∧ line[h.length]? = some 58 then (trimL (line.drop (h.length + 1)), true) else ([], false)
theorem lineV_in {h line : List UInt8} (k : h.length < line.length ∧ (line.take h.length).map lowB = h ∧ line[h.length]? = some 58) : lineV h line = (trimL (line.drop (h.length + 1)), true) := if_pos k
theorem lineV_no {h line : List UInt8} (k : ¬ (h.length < line.length ∧ (line.take h.length).map lowB = h ∧ line[h.length]? = some 58)) : lineV h line = ([], false) := if_neg k
theorem first_val (name p : List UInt8) (r : List (List UInt8)) : firstIn name (p :: r) = if (lineV (name.map lowB) p).2 then lineV (name.map lowB) p else firstIn name r := by
  rw [firstIn]
  unfold lineV
  rw [List.length_map]
  split
  · simp
  · simp
theorem lineV_len (h line : List UInt8) : (lineV h line).1.length ≤ line.length := by
  unfold lineV
  split
  · have := trimL_len (line.drop (h.length + 1))
    rw [List.length_drop] at this
    show (trimL (line.drop (h.length + 1))).length ≤ _
    omega
  · simp
theorem byteAt {u : ByteArray} {n : Nat} (h : n < u.size) : u.data.toList[n]? = some u[n] := by
  rw [Array.getElem?_toList, Array.getElem?_eq_getElem h]
  rfl
end Plain

set_option maxHeartbeats 4000000 in
set_option maxRecDepth 100000 in
theorem valueIn_any (h u : ByteArray) (w : World) (hh : h.size ≤ 1048576) (hu : u.size ≤ 1048576) :
    Calls Tryz.prog 93 #[.string h, .string u] w fun e w' => e = .returned (.tuple #[.string ⟨(lineV h.data.toList u.data.toList).1.toArray⟩, .bool (lineV h.data.toList u.data.toList).2]) ∧ Below w.heap.size w w' := by
  have IN := hide (fun k => lineV_in (h := h.data.toList) (line := u.data.toList) k)
  have NO := hide (fun k => lineV_no (h := h.data.toList) (line := u.data.toList) k)
  have HL : Hid (h.data.toList.length = h.size) := rfl
  by_cases k1 : h.size < u.size
  · have c1 : decide ((u.size : Int) ≤ (h.size : Int)) = false := by rw [decide_eq_false_iff_not]; omega
    have c1' : decide (u.size ≤ h.size) = false := by rw [decide_eq_false_iff_not]; omega
    have hb := byteAt k1
    by_cases k3 : u[h.size].toNat = 58
    · have t3 : ((u[h.size].toNat : Int) != 58) = false := by rw [bne_eq_false_iff_eq]; omega
      have L1 := hide (small_any (u.extract 0 h.size) w (by rw [ByteArray.size_extract]; omega))
      rw [ext_head] at L1
      have i1 : (h.size : Int) ≤ (u.size : Int) := by omega
      by_cases k2 : (u.data.toList.take h.size).map lowB = h.data.toList
      · rw [k2] at L1
        have V := hide (unhide IN ⟨by rw [unhide HL]; exact k1, by rw [unhide HL]; exact k2, by rw [unhide HL, hb]; exact congrArg some (UInt8.toNat_inj.1 k3)⟩)
        have TQ := hide (fun W => blanks_any (u.extract (h.size + 1) u.size) W (by rw [ByteArray.size_extract]; omega))
        rw [ext_tail] at TQ
        have i2 : (h.size : Int) + 1 ≤ (u.size : Int) := by omega
        have i3 : IntKind.i64.wrap ((h.size : Int) + 1) = (h.size : Int) + 1 := by rw [IntKind.wrap_i64]; omega
        have E : (⟨h.data.toList.toArray⟩ : ByteArray) = h := rfl
        rw [E] at L1
        clear k2 hb k3 IN NO E
        go_enter Tryz.func93, Tryz.ntmps93
        go_wp2_with fail
        refine (unhide L1).mono ?_
        rintro e w2 ⟨rfl, hb2⟩
        have B2 := hide hb2
        clear hb2
        go_wp2_with fail
        refine (unhide TQ _).mono ?_
        rintro e w4 ⟨rfl, hb4⟩
        have B4 := hide ((unhide B2).trans (hb4.mono (unhide B2).size))
        clear hb4
        go_wp2
        go_ret2
        exact ⟨by rw [unhide V, unhide HL]; rfl, unhide B4⟩
      · have V := hide (unhide NO (fun k => k2 (by have := k.2.1; rwa [unhide HL] at this)))
        have TS : ((⟨((u.data.toList.take h.size).map lowB).toArray⟩ : ByteArray).toList == h.toList) = false := by
          rw [ByteArray.toList_eq, ByteArray.toList_eq, beq_eq_false_iff_ne]
          exact k2
        have HT := hide TS
        clear k2 hb k3 IN NO TS
        generalize (⟨((u.data.toList.take h.size).map lowB).toArray⟩ : ByteArray) = Y at *
        have TS2 := unhide HT
        go_enter Tryz.func93, Tryz.ntmps93
        go_wp2_with fail
        refine (unhide L1).mono ?_
        rintro e w2 ⟨rfl, hb2⟩
        have B2 := hide hb2
        clear hb2
        go_wp2
        go_ret2
        exact ⟨by rw [unhide V]; rfl, unhide B2⟩
    · have t3 : ((u[h.size].toNat : Int) != 58) = true := by rw [bne_iff_ne]; omega
      have V := hide (unhide NO (fun kk => k3 (by have := kk.2.2; rw [unhide HL, hb] at this; have e : u[h.size] = 58 := (by simpa using this); rw [e]; rfl)))
      clear hb k3 IN NO
      go_enter Tryz.func93, Tryz.ntmps93
      go_wp2
      go_ret2
      exact ⟨by rw [unhide V]; rfl, Below.refl _ _⟩
  · have c1 : decide ((u.size : Int) ≤ (h.size : Int)) = true := by rw [decide_eq_true_eq]; omega
    have c1' : decide (u.size ≤ h.size) = true := by rw [decide_eq_true_eq]; omega
    have V := hide (unhide NO (fun k => k1 (by have := k.1; rw [unhide HL] at this; exact this)))
    clear IN NO
    go_enter Tryz.func93, Tryz.ntmps93
    go_wp2
    go_ret2
    exact ⟨by rw [unhide V]; rfl, Below.refl _ _⟩
end Go.Proofs.YtihdgfihdecalaaGreatDoor

namespace Go.Proofs.YtihdgfihdecalaaGreatDoor
open Go.RowKit
open Plain
set_option linter.unusedVariables false

namespace Plain
theorem all_over {t : List UInt8} {p d : Nat} (hp : p + d ≤ t.length) (ha : (t.take p).all (fun b => b != 0) = true) (hx : ∀ j, p ≤ j → j < p + d → t.getD j 0 ≠ 0) : (t.take (p + d)).all (fun b => b != 0) = true := by
  rw [List.take_add, List.all_append, ha, Bool.true_and, List.all_eq_true]
  intro b hb
  obtain ⟨k, hk, rfl⟩ := List.getElem_of_mem hb
  have hk2 : k < d := by have := hk; simp at this; omega
  have h3 := hx (p + k) (by omega) (by omega)
  rw [List.getD_eq_getElem?_getD, List.getElem?_eq_getElem (by omega)] at h3
  simpa using h3
theorem all_zero {t : List UInt8} {p : Nat} (hp : p < t.length) (h : t.getD p 0 = 0) : t.all (fun b => b != 0) = false := by
  refine all_no (k := p) ?_
  rw [List.getElem?_eq_getElem hp]
  rw [List.getD_eq_getElem?_getD, List.getElem?_eq_getElem hp] at h
  simpa using h
theorem mail_no {t : List UInt8} (h : t.all (fun b => b != 0) = false) : mailOkL t = false := by
  unfold mailOkL
  rw [h]
  rfl
theorem mail_in {t : List UInt8} (h : t.all (fun b => b != 0) = true) : mailOkL t = (decide (1 ≤ t.length) && decide (t.length ≤ 200)) := by
  unfold mailOkL
  rw [h]
  rfl
end Plain

set_option maxHeartbeats 2000000 in
set_option maxRecDepth 100000 in
theorem impl_MailOk_any (s : ByteArray) (w : World) (hs : s.size ≤ 1048576) :
    Calls Tryz.prog 86 #[.string s] w fun e w' => e = .returned (.bool (mailOkL s.data.toList)) ∧ Below w.heap.size w w' := by
  have BI : ∀ p, Hid (Below w.heap.size w (w.iter s p)) := fun p => (Below.refl _ w).alloc (Nat.le_refl _) _
  go_enter Tryz.func86, Tryz.ntmps86
  go_wp2
  go_loopw [4] (fun _ wr => ∃ p : Nat, p ≤ s.size ∧ wr = w.iter s p ∧ (s.data.toList.take p).all (fun b => b != 0) = true) (fun _ wr => s.size - wr.iterPos w.heap.size)
  case atStart => exact ⟨0, Nat.zero_le _, rfl, rfl⟩
  case round =>
    obtain ⟨p, hp, rfl, hall⟩ := hrel
    by_cases hlt : p < s.size
    · have hnx := fun ty => run_next_any (P := Tryz.prog) w s p ty hlt
      rcases rune_step s p hlt with ⟨hlo, hd⟩ | ⟨hhi, hd1, hsp⟩
      · rw [hd] at hnx
        simp only at hnx
        by_cases h0 : s.data.toList.getD p 0 = 0
        · have V := hide (mail_no (all_zero (t := s.data.toList) (show p < s.data.toList.length from hlt) h0))
          rw [h0] at hnx
          clear hall h0 hd hlo
          go_wp2
          go_ret
          exact ⟨by rw [unhide V]; rfl, unhide (BI _)⟩
        · have ST := hide (all_over (t := s.data.toList) (p := p) (d := 1) (show p + 1 ≤ s.size by omega) hall (fun j h1 h2 => by rw [show j = p by omega]; exact h0))
          have t0 : (((s.data.toList.getD p 0).toNat : Int) == 0) = false := by
            rw [beq_eq_false_iff_ne]
            intro e
            exact h0 (UInt8.toNat_inj.1 (by simpa using e))
          clear hall h0 hd hlo
          generalize (s.data.toList.getD p 0).toNat = x at *
          go_wp2
          go_roundw
          case rel => exact ⟨p + 1, by omega, rfl, unhide ST⟩
          case measure => simp only [World.iterPos_iter]; omega
      · have ST := hide (all_over (t := s.data.toList) (p := p) (d := (Utf8.decode s p).2) (by have := (hsp (p + (Utf8.decode s p).2 - 1) (by omega) (by omega)).1; show p + (Utf8.decode s p).2 ≤ s.size; omega) hall (fun j h1 h2 e => by have := (hsp j h1 h2).2; rw [e] at this; exact absurd this (by decide)))
        have hle : p + (Utf8.decode s p).2 ≤ s.size := by have := (hsp (p + (Utf8.decode s p).2 - 1) (by omega) (by omega)).1; omega
        clear hall hsp
        obtain ⟨r, hr⟩ : ∃ r, Utf8.decode s p = r := ⟨_, rfl⟩
        rw [hr] at hnx hhi hd1 ST hle
        clear hr
        obtain ⟨x, d⟩ := r
        simp only at hnx hhi hd1 ST hle
        have t0 : ((x : Int) == 0) = false := by rw [beq_eq_false_iff_ne]; omega
        go_wp2
        go_roundw
        case rel => exact ⟨p + d, by omega, rfl, unhide ST⟩
        case measure => simp only [World.iterPos_iter]; omega
    · have hnx := fun ty => run_next_end (P := Tryz.prog) w s p ty hlt
      rw [List.take_of_length_le (show s.data.toList.length ≤ p by show s.size ≤ p; omega)] at hall
      have V := hide (mail_in hall)
      rw [show s.data.toList.length = s.size from rfl] at V
      clear hall
      by_cases h1 : 1 ≤ s.size
      · have d1 : decide ((1 : Int) ≤ (s.size : Int)) = true := by rw [decide_eq_true_eq]; omega
        rw [decide_eq_true h1, Bool.true_and] at V
        by_cases h2 : s.size ≤ 200
        · have d2 : decide ((s.size : Int) ≤ 200) = true := by rw [decide_eq_true_eq]; omega
          rw [decide_eq_true h2] at V
          go_wp2
          go_ret
          exact ⟨by rw [unhide V]; rfl, unhide (BI _)⟩
        · have d2 : decide ((s.size : Int) ≤ 200) = false := by rw [decide_eq_false_iff_not]; omega
          rw [decide_eq_false h2] at V
          go_wp2
          go_ret
          exact ⟨by rw [unhide V]; rfl, unhide (BI _)⟩
      · have d1 : decide ((1 : Int) ≤ (s.size : Int)) = false := by rw [decide_eq_false_iff_not]; omega
        rw [decide_eq_false h1, Bool.false_and] at V
        go_wp2
        go_ret
        exact ⟨by rw [unhide V]; rfl, unhide (BI _)⟩

set_option maxHeartbeats 2000000 in
set_option maxRecDepth 100000 in
theorem cutMail_any (s : ByteArray) (w : World) (hs : s.size ≤ 1048576) :
    Calls Tryz.prog 90 #[.string s] w fun e w' => e = .returned (.tuple #[.string ⟨(headsFrom true s.data.toList).toArray⟩, .string ⟨(bodyL s.data.toList).toArray⟩]) ∧ Below w.heap.size w w' := by
  have BI : ∀ p, Hid (Below w.heap.size w (w.iter s p)) := fun p => (Below.refl _ w).alloc (Nat.le_refl _) _
  go_enter Tryz.func90, Tryz.ntmps90
  go_wp2
  go_loopw [4] (fun a wr => ∃ (p : Nat) (x : Int), p ≤ s.size ∧ wr = w.iter s p ∧ a = .int .i32 x ∧ CutI s.data.toList p (x == 10)) (fun _ wr => s.size - wr.iterPos w.heap.size)
  case atStart => exact ⟨0, 10, Nat.zero_le _, rfl, rfl, CutI.zero _⟩
  case round =>
    obtain ⟨p, x, hp, rfl, rfl, hc⟩ := hrel
    by_cases hlt : p < s.size
    · have hlt2 : p < s.data.toList.length := hlt
      have hnx := fun ty => run_next_any (P := Tryz.prog) w s p ty hlt
      rcases rune_step s p hlt with ⟨hlo, hd⟩ | ⟨hhi, hd1, hsp⟩
      · rw [hd] at hnx
        simp only at hnx
        by_cases h0 : s.data.toList.getD p 0 = 10
        · rw [h0] at hnx
          have hnx' : ∀ ty, (Instr.next (.pointer (some ⟨w.heap.size, 0, none⟩)) true ty).run Tryz.prog (w.iter s p) = .ok (.tuple #[.bool true, .int .i64 p, .int .i32 10]) (w.iter s (p + 1)) := hnx
          clear hnx
          cases hx : (x == 10) with
          | true =>
            rw [hx] at hc
            have V1 := hide (hc.here hlt2 h0).1
            have V2 := hide (hc.here hlt2 h0).2
            have E1 := hide (cut_bytes s 0 p)
            have E2 := hide (cut_bytes s (p + 1) s.size)
            rw [List.drop_zero, Nat.sub_zero] at E1
            rw [List.take_of_length_le (by rw [List.length_drop]; exact Nat.le_refl _)] at E2
            have i1 : (0 : Int) ≤ (p : Int) := by omega
            have i2 : (p : Int) ≤ (s.size : Int) := by omega
            have i3 : IntKind.i64.wrap ((p : Int) + 1) = (p : Int) + 1 := by rw [IntKind.wrap_i64]; omega
            have i4 : (0 : Int) ≤ (p : Int) + 1 := by omega
            have i5 : (p : Int) + 1 ≤ (s.size : Int) := by omega
            clear hc h0 hd hlo
            go_wp2_with fail
            go_region
            go_wp2
            go_ret2
            exact ⟨by rw [unhide V1, unhide V2, ← unhide E1, ← unhide E2]; rfl, (unhide (BI _)).drew⟩
          | false =>
            rw [hx] at hc
            have ST := hide (hc.line hlt2 h0)
            clear hc h0 hd hlo
            go_wp2
            go_roundw
            case rel => exact ⟨p + 1, 10, by omega, rfl, rfl, unhide ST⟩
            case measure => simp only [World.iterPos_iter]; omega
        · have ST := hide (hc.over 1 (Nat.le_refl _) (show p + 1 ≤ s.data.toList.length from hlt2) (fun j h1 h2 => by rw [show j = p by omega]; exact h0))
          have t0 : (((s.data.toList.getD p 0).toNat : Int) == 10) = false := by
            rw [beq_eq_false_iff_ne]
            intro e
            exact h0 (UInt8.toNat_inj.1 (by show _ = 10; omega))
          clear hc h0 hd hlo
          generalize (s.data.toList.getD p 0).toNat = y at *
          go_wp2
          go_roundw
          case rel => exact ⟨p + 1, y, by omega, rfl, rfl, by rw [t0]; exact unhide ST⟩
          case measure => simp only [World.iterPos_iter]; omega
      · have hle : p + (Utf8.decode s p).2 ≤ s.size := by have := (hsp (p + (Utf8.decode s p).2 - 1) (by omega) (by omega)).1; omega
        have ST := hide (hc.over (Utf8.decode s p).2 hd1 hle (fun j h1 h2 e => by have := (hsp j h1 h2).2; rw [e] at this; exact absurd this (by decide)))
        clear hc hsp
        obtain ⟨r, hr⟩ : ∃ r, Utf8.decode s p = r := ⟨_, rfl⟩
        rw [hr] at hnx hhi hd1 ST hle
        clear hr
        obtain ⟨y, d⟩ := r
        simp only at hnx hhi hd1 ST hle
        have t0 : ((y : Int) == 10) = false := by rw [beq_eq_false_iff_ne]; omega
        go_wp2
        go_roundw
        case rel => exact ⟨p + d, y, by omega, rfl, rfl, by rw [t0]; exact unhide ST⟩
        case measure => simp only [World.iterPos_iter]; omega
    · have hnx := fun ty => run_next_end (P := Tryz.prog) w s p ty hlt
      have V1 := hide (hc.end_ (show ¬ p < s.data.toList.length from hlt)).1
      have V2 := hide (hc.end_ (show ¬ p < s.data.toList.length from hlt)).2
      clear hc
      go_wp2
      go_ret2
      exact ⟨by rw [unhide V1, unhide V2]; rfl, unhide (BI _)⟩
end Go.Proofs.YtihdgfihdecalaaGreatDoor

namespace Go.Proofs.YtihdgfihdecalaaGreatDoor
open Go.RowKit
open Plain
set_option linter.unusedVariables false

namespace Plain
theorem heads_len : ∀ (l : List UInt8) (s : Bool), (headsFrom s l).length ≤ l.length := by
  intro l
  induction l with
  | nil => intro s; simp [headsFrom]
  | cons b r ih =>
    intro s
    rw [headsFrom]
    split
    · split
      · simp
      · have := ih true; simp; omega
    · have := ih false; simp; omega
end Plain

end Go.Proofs.YtihdgfihdecalaaGreatDoor

namespace Go.Proofs.YtihdgfihdecalaaGreatDoor
open Go.RowKit Go.Shelf
open Plain
set_option linter.unusedVariables false

attribute [local go_sem] Oper.semAt_some

theorem keepsM_below {W W' : World} (h : Below W.heap.size W W') : KeepsOthers W W' :=
  ⟨h.size, fun k o hk _ => (h.block k (Array.getElem?_eq_some_iff.1 hk).1).trans hk⟩
theorem boxedM_below {W W' : World} {B : Nat} {t : TypeId} {v : Value} (h : Below W.heap.size W W') (b : Boxed W B t v) : Boxed W' B t v := (h.block B b.lt).trans b

def linesP (pre : List Pt) : List (List UInt8) := pre.map ptOf
namespace Plain
/-- The first line that tells, by what each tells. -/
def firstV (h : List UInt8) : List (List UInt8) → List UInt8 × Bool
  | [] => ([], false)
  | p :: r => if (lineV h p).2 then lineV h p else firstV h r
theorem first_is (name : List UInt8) (ps : List (List UInt8)) : firstIn name ps = firstV (name.map lowB) ps := by
  induction ps with
  | nil => rfl
  | cons p r ih => rw [first_val, firstV, ih]
theorem firstV_no {h : List UInt8} {ps : List (List UInt8)} (hn : (firstV h ps).2 = false) : firstV h ps = ([], false) := by
  induction ps with
  | nil => rfl
  | cons p r ih =>
    rw [firstV] at hn ⊢
    split at hn
    · rename_i k; rw [k] at hn; cases hn
    · rename_i k; rw [if_neg k]; exact ih hn
theorem firstV_app {h : List UInt8} (ps qs : List (List UInt8)) : firstV h (ps ++ qs) = if (firstV h ps).2 then firstV h ps else firstV h qs := by
  induction ps with
  | nil => rfl
  | cons p r ih =>
    rw [List.cons_append, firstV, firstV]
    by_cases k : (lineV h p).2 = true
    · rw [if_pos k, if_pos k, if_pos k]
    · rw [if_neg k, if_neg k, ih]
theorem firstV_more {h : List UInt8} {ps : List (List UInt8)} (x : List UInt8) (hn : (firstV h ps).2 = false) : firstV h (ps ++ [x]) = if (lineV h x).2 then lineV h x else ([], false) := by
  rw [firstV_app, hn, if_neg (by decide)]
  rfl
theorem firstV_pre {h : List UInt8} {ps rs : List (List UInt8)} (hp : ps <+: rs) (hy : (firstV h ps).2 = true) : firstV h rs = firstV h ps := by
  obtain ⟨qs, rfl⟩ := hp
  rw [firstV_app, if_pos hy]
theorem firstV_len (h : List UInt8) (n : Nat) : ∀ ps : List (List UInt8), (∀ p ∈ ps, p.length ≤ n) → (firstV h ps).1.length ≤ n := by
  intro ps
  induction ps with
  | nil => intro _; exact Nat.zero_le _
  | cons p r ih =>
    intro hp
    rw [firstV]
    split
    · exact Nat.le_trans (lineV_len h p) (hp p (by simp))
    · exact ih (fun x hx => hp x (by simp [hx]))
theorem cuts_len (c : UInt8) : ∀ (l : List UInt8) (p : List UInt8), p ∈ cutsL c l → p.length ≤ l.length := by
  intro l
  induction l with
  | nil => intro p hp; simp [cutsL] at hp; subst hp; exact Nat.le_refl _
  | cons b r ih =>
    intro p hp
    rw [cutsL] at hp
    split at hp
    · rcases List.mem_cons.1 hp with rfl | hp
      · simp
      · have := ih p hp; simp; omega
    · cases hc : cutsL c r with
      | nil =>
        rw [hc] at hp
        simp at hp
        subst hp
        simp
      | cons q qs =>
        rw [hc] at hp
        simp only at hp
        rcases List.mem_cons.1 hp with rfl | hp
        · have := ih q (by rw [hc]; simp); simp; omega
        · have := ih p (by rw [hc]; simp [hp]); simp; omega
end Plain
/-- What the loop holds on to: nothing was told yet; what was told. -/
def InvT (w : World) (H : ByteArray) (pre : List Pt) (W : World) : Prop :=
  Boxed W w.heap.size 121 (.func (.func 93) #[.string H] #[]) ∧ (Boxed W (w.heap.size + 1) 9 (.string ⟨#[]⟩) ∧ Boxed W (w.heap.size + 2) 4 (.bool false)) ∧ (firstV H.data.toList (linesP pre)).2 = false ∧ Below w.heap.size w W ∧ w.heap.size + 6 ≤ W.heap.size
def InvU (w : World) (H : ByteArray) (pre : List Pt) (W : World) : Prop :=
  (Boxed W (w.heap.size + 1) 9 (.string ⟨(firstV H.data.toList (linesP pre)).1.toArray⟩) ∧ Boxed W (w.heap.size + 2) 4 (.bool true)) ∧ (firstV H.data.toList (linesP pre)).2 = true ∧ Below w.heap.size w W
theorem InvT.own (w : World) (H : ByteArray) (B : Nat) (hB : w.heap.size ≤ B) : OwnFrom B (InvT w H) :=
  OwnFrom.and (Own.from (boxed_own w.heap.size 121 (fun _ => (.func (.func 93) #[.string H] #[]))) _)
    (OwnFrom.and (OwnFrom.and (Own.from (boxed_own (w.heap.size + 1) 9 (fun _ => .string ⟨#[]⟩)) _) (Own.from (boxed_own (w.heap.size + 2) 4 (fun _ => .bool false)) _))
      (OwnFrom.and (ownFrom_pure _ (fun (pre : List Pt) => (firstV H.data.toList (linesP pre)).2 = false)) (OwnFrom.and (ownFrom_below (Nat.le_refl _) hB) (fun _ _ _ _ hs hg _ => Nat.le_trans hs hg.size))))
theorem InvU.own (w : World) (H : ByteArray) (B : Nat) (hB : w.heap.size ≤ B) : OwnFrom B (InvU w H) :=
  OwnFrom.and (OwnFrom.and (Own.from (boxed_own (w.heap.size + 1) 9 (fun (pre : List Pt) => .string ⟨(firstV H.data.toList (linesP pre)).1.toArray⟩)) _) (Own.from (boxed_own (w.heap.size + 2) 4 (fun _ => .bool true)) _))
    (OwnFrom.and (ownFrom_pure _ (fun (pre : List Pt) => (firstV H.data.toList (linesP pre)).2 = true)) (ownFrom_below (Nat.le_refl _) hB))
theorem InvT.moved (w : World) (H : ByteArray) (s : List Pt) (A : World) (v : Value) (h : InvT w H s A) : InvT w H s (A.setCell ⟨w.heap.size + 3, 0, none⟩ v) := by
  obtain ⟨h1, ⟨h2, h3⟩, h4, h5, h6⟩ := h
  exact ⟨h1.other (by omega) _, ⟨h2.other (by omega) _, h3.other (by omega) _⟩, h4, h5.setCell (p := ⟨w.heap.size + 3, 0, none⟩) (by show w.heap.size ≤ w.heap.size + 3; omega) v, by simpa using h6⟩

set_option maxRecDepth 100000 in
set_option maxHeartbeats 2000000 in
theorem firstTold_any (L H : ByteArray) (w : World) (hL : L.size ≤ 1048576) (hH : H.size ≤ 1048576) :
    Calls Tryz.prog 91 #[.string L, (.func (.func 93) #[.string H] #[])] w fun e w' => e = .returned (.tuple #[.string ⟨(firstV H.data.toList (cutsL 10 L.data.toList)).1.toArray⟩, .bool (firstV H.data.toList (cutsL 10 L.data.toList)).2]) ∧ Below w.heap.size w w' := by
  refine (callsIn_wide (n := 6)).1 ?_
  refine callsIn_of_wp_marks Tryz.func91 rfl trivial ?_ rfl
  simp only [Tryz.ntmps91, List.size_toArray, List.length_cons, List.length_nil, Nat.reduceAdd, Nat.reduceSub, Array.replicate_succ, Array.replicate_zero, List.push_toArray, List.append_toArray, List.nil_append, List.cons_append]
  gi_wp2_with (refine ⟨trivial, ?_⟩; gi_at_call 111; refine (SplitSeq_in 10 _ L _).mono ?_; rintro e w1 ⟨rfl, q1, q2, q3, q4⟩)
  have b0 := Boxed.new w 121 (.func (.func 93) #[.string H] #[])
  have b1 := Boxed.new (w.alloc (.cells #[(.func (.func 93) #[.string H] #[])] 121)) 9 (.string ⟨#[]⟩)
  have b2 := Boxed.new ((w.alloc (.cells #[(.func (.func 93) #[.string H] #[])] 121)).alloc (.cells #[.string ⟨#[]⟩] 9)) 4 (.bool false)
  rw [World.size_alloc] at b1
  rw [World.size_alloc, World.size_alloc] at b2
  obtain ⟨WA, hWA⟩ : ∃ WA, WA = ((w.alloc (.cells #[(.func (.func 93) #[.string H] #[])] 121)).alloc (.cells #[.string ⟨#[]⟩] 9)).alloc (.cells #[.bool false] 4) := ⟨_, rfl⟩
  have d0 : Boxed WA w.heap.size 121 (.func (.func 93) #[.string H] #[]) := by rw [hWA]; exact (b0.alloc _).alloc _
  have d1 : Boxed WA (w.heap.size + 1) 9 (.string ⟨#[]⟩) := by rw [hWA]; exact b1.alloc _
  have d2 : Boxed WA (w.heap.size + 2) 4 (.bool false) := by rw [hWA]; exact b2
  have hbA : Below w.heap.size w WA := by rw [hWA]; exact (((Below.refl _ w).alloc (Nat.le_refl _) _).alloc (by simp) _).alloc (by simp; omega) _
  have hsA : WA.heap.size = w.heap.size + 3 := by rw [hWA]; simp
  rw [← hWA] at q1 q2 q3 q4
  clear b0 b1 b2 hWA
  have hs1 : w1.heap.size = w.heap.size + 6 := by omega
  have q1' : SpBox 10 (w.heap.size + 1 + 1 + 1) w1 L := by rw [hsA] at q1; exact q1
  have hB1 : Below w.heap.size w w1 := below2 hbA q3
  have k0 := boxedM_below q3 d0
  have k1 := boxedM_below q3 d1
  have k2 := boxedM_below q3 d2
  have HS1 := hide hs1
  clear q1 q2 q3 q4 d0 d1 d2 hbA hsA
  refine wpIn_range_moves (by omega) (gf := 141) (lb := #[.pointer (some ⟨w.heap.size + 1 + 1 + 1 + 1, 0, none⟩), .pointer (some ⟨w.heap.size + 1 + 1 + 1, 0, none⟩), .pointer (some ⟨w.heap.size + 1 + 1 + 1 + 2, 0, none⟩)]) rfl (enters_of Tryz.func141 (by kernel_rfl) rfl)
    (split_moves 10 5 (by omega) (w.heap.size + 1 + 1 + 1) w.heap.size L hL w1 q1' (by omega)) KpS.t (KpS.b (by omega) (by omega)) (fun _ => rfl)
    (InvT w H) (InvU w H) (InvT.own w H _ (by omega)) (InvU.own w H _ (by omega)) (InvT.moved w H) ⟨k0, ⟨k1, k2⟩, rfl, hB1, by omega⟩
    (fun x => { tmps := #[.string L, (.func (.func 93) #[.string H] #[]), undef, .pointer (some ⟨w.heap.size, 0, none⟩), .pointer (some ⟨w.heap.size + 1, 0, none⟩), .pointer (some ⟨w.heap.size + 1 + 1, 0, none⟩), .string x.1, undef, undef, .string L, .func (.func 141) #[] #[.pointer (some ⟨w.heap.size + 1 + 1 + 1 + 1, 0, none⟩), .pointer (some ⟨w.heap.size + 1 + 1 + 1, 0, none⟩), .pointer (some ⟨w.heap.size + 1 + 1 + 1 + 2, 0, none⟩)], .string x.1, undef, undef, undef, undef, undef, undef, undef, undef], defers := [] }) ?assign ?body ?done ?stop
  case assign =>
    intro l x W K hK
    gi_wp2
    exact hK
  case body =>
    rintro l pre x W ⟨hv, ⟨hR1, hR2⟩, hok, hB, hsz⟩ hlt
    have RR := hide (valueIn_any H x.1 W hH x.2)
    have SN := hide (firstV_more (h := H.data.toList) (ps := linesP pre) x.1.data.toList hok)
    have LS : Hid (linesP (pre ++ [x]) = linesP pre ++ [x.1.data.toList]) := by
      show linesP (pre ++ [x]) = _
      unfold linesP
      rw [List.map_append]
      rfl
    have vc := hv.cell
    clear hok
    generalize lineV H.data.toList x.1.data.toList = r at *
    obtain ⟨rv, rb⟩ := r
    simp only at RR SN
    gi_wp2
    refine ⟨trivial, (CallsIn.inRound l (callsIn_wide.2 (unhide RR))).mono ?_⟩
    rintro e w2 ⟨rfl, hb2⟩
    have hB2 : Below w.heap.size w w2 := hB.trans (hb2.mono hB.size)
    have e0 := boxedM_below hb2 hv
    have e1 := boxedM_below hb2 hR1
    have e2 := boxedM_below hb2 hR2
    have KO2 := keepsM_below hb2
    have hsz2 : w.heap.size + 6 ≤ w2.heap.size := Nat.le_trans hsz hb2.size
    have KB := hide hb2
    clear hR1 hR2 hv hb2 RR vc
    have f1 := e1.cell
    have f2 : w2.cell? ⟨w.heap.size + 1 + 1, 0, none⟩ = some (.bool false) := e2.cell
    have g1 := e1.frozen
    have g2 : w2.frozen? ⟨w.heap.size + 1 + 1, 0, none⟩ = false := e2.frozen
    cases rb with
    | true =>
      have OX : Hid (firstV H.data.toList (linesP (pre ++ [x])) = (rv, true)) := by
        show firstV _ _ = _
        rw [unhide LS, unhide SN]
        rfl
      gi_wp2
      have n12 : w.heap.size + 1 ≠ w.heap.size + 2 := by omega
      refine ⟨((KO2.trans (KeepsOthers.setCell _ _ _)).trans (KeepsOthers.setCell _ _ _)).from _, ⟨?_, (e2.other n12.symm _).set (.bool true)⟩, by rw [unhide OX], (hB2.setCell (p := ⟨w.heap.size + 1, 0, none⟩) (by show w.heap.size ≤ w.heap.size + 1; omega) _).setCell (p := ⟨w.heap.size + 2, 0, none⟩) (by show w.heap.size ≤ w.heap.size + 2; omega) _⟩
      rw [unhide OX]
      exact (e1.set (.string ⟨rv.toArray⟩)).other n12 _
    | false =>
      have OX : Hid (firstV H.data.toList (linesP (pre ++ [x])) = ([], false)) := by
        show firstV _ _ = _
        rw [unhide LS, unhide SN]
        rfl
      gi_wp2
      refine ⟨KO2.from _, ⟨(unhide KB).mono hB.size, fun k h1 h2 => (unhide KB).block k (by omega)⟩, e0, ⟨e1, e2⟩, by rw [unhide OX], hB2, hsz2⟩
  case done =>
    rintro D ys W hD hS0 ⟨hv, ⟨hR1, hR2⟩, hok, hB, hsz⟩ hK
    have hDs : w.heap.size + 6 ≤ D := by have := unhide HS1; omega
    have FV : Hid (firstV H.data.toList (cutsL 10 L.data.toList) = ([], false)) := by
      show firstV _ _ = _
      rw [← show linesP ys = cutsL 10 L.data.toList from hS0]
      exact firstV_no hok
    clear hok hS0
    have c1 := hR1.cell
    have c2 : W.cell? ⟨w.heap.size + 1 + 1, 0, none⟩ = some (.bool false) := hR2.cell
    have z1 := hR1.frozen
    have z2 : W.frozen? ⟨w.heap.size + 1 + 1, 0, none⟩ = false := hR2.frozen
    gi_wp2
    have n12 : w.heap.size + 1 ≠ w.heap.size + 2 := by omega
    have r1 := (hR1.set (.string ⟨#[]⟩)).other n12 (.bool false)
    have r2 := (hR2.other n12.symm (.string ⟨#[]⟩)).set (.bool false)
    have hK6 : ((W.setCell ⟨w.heap.size + 1, 0, none⟩ (.string ⟨#[]⟩)).setCell ⟨w.heap.size + 2, 0, none⟩ (.bool false)).heap[D]? = some (.deferred (some [])) := ((KeepsOthers.setCell _ _ _).trans (KeepsOthers.setCell _ _ _)).same D _ hK rfl
    have hB6 : Below w.heap.size w ((W.setCell ⟨w.heap.size + 1, 0, none⟩ (.string ⟨#[]⟩)).setCell ⟨w.heap.size + 2, 0, none⟩ (.bool false)) := (hB.setCell (p := ⟨w.heap.size + 1, 0, none⟩) (by show w.heap.size ≤ w.heap.size + 1; omega) _).setCell (p := ⟨w.heap.size + 2, 0, none⟩) (by show w.heap.size ≤ w.heap.size + 2; omega) _
    generalize (W.setCell ⟨w.heap.size + 1, 0, none⟩ (.string ⟨#[]⟩)).setCell ⟨w.heap.size + 2, 0, none⟩ (.bool false) = W6 at *
    refine ⟨by simp, .inl ⟨_, _, rfl, run_takeDeferred hK6, ?_⟩⟩
    have g1 := (r1.kept (grownBy_putObj' W6 D (.deferred none)) (by simp; omega)).cell
    have g2 := (r2.kept (grownBy_putObj' W6 D (.deferred none)) (by simp; omega)).cell
    refine ⟨_, by simp [results, Tryz.results91, go_sem, g1, g2]; try rfl, ?_, ?_⟩
    · rw [unhide FV]
    · exact hB6.trans (belowK_b (w := w) (Nat.le_refl _) W6 D _ _ (by omega) hK6 rfl rfl)
  case stop =>
    rintro D pre W hD hSp ⟨⟨hR1, hR2⟩, hok, hB⟩ hK
    have NO := hide (firstV_pre hSp hok)
    have OK := hide hok
    clear hok
    gi_wp2
    refine ⟨by simp, .inl ⟨_, _, rfl, run_takeDeferred hK, ?_⟩⟩
    have hDs : w.heap.size + 6 ≤ D := by have := unhide HS1; omega
    have g1 := (hR1.kept (grownBy_putObj' W D (.deferred none)) (by simp; omega)).cell
    have g2 := (hR2.kept (grownBy_putObj' W D (.deferred none)) (by simp; omega)).cell
    refine ⟨_, by simp [results, Tryz.results91, go_sem, g1, g2]; try rfl, ?_, ?_⟩
    · have h1 := unhide NO
      have h2 : (firstV H.data.toList (pre.map ptOf)).2 = true := unhide OK
      rw [h1, h2]
      rfl
    · exact hB.trans (belowK_b (w := w) (Nat.le_refl _) W D _ _ (by omega) hK rfl rfl)

set_option maxHeartbeats 2000000 in
set_option maxRecDepth 100000 in
theorem impl_HeadOf_any (s name : ByteArray) (w : World) (hs : s.size ≤ 1048576) (hn : name.size ≤ 1048576) :
    Calls Tryz.prog 71 #[.string s, .string name] w fun e w' => e = .returned (.tuple #[.string ⟨(headL s.data.toList name.data.toList).1.toArray⟩, .bool (headL s.data.toList name.data.toList).2]) ∧ Below w.heap.size w w' := by
  have C := hide (cutMail_any s w hs)
  have V : Hid (headL s.data.toList name.data.toList = firstV (name.data.toList.map lowB) (cutsL 10 (headsFrom true s.data.toList))) := by
    show headL _ _ = _
    rw [headL_first, first_is]
  have hh := heads_len s.data.toList true
  have hl : s.data.toList.length = s.size := rfl
  have S := hide (fun W => small_any name W hn)
  have T := hide (fun W => firstTold_any ⟨(headsFrom true s.data.toList).toArray⟩ ⟨(name.data.toList.map lowB).toArray⟩ W (by show (headsFrom true s.data.toList).length ≤ 1048576; omega) (by show (name.data.toList.map lowB).toArray.size ≤ 1048576; simpa using hn))
  have LN := firstV_len (name.data.toList.map lowB) s.size (cutsL 10 (headsFrom true s.data.toList)) (fun p hp => by have := cuts_len 10 _ p hp; omega)
  rw [show (⟨(headsFrom true s.data.toList).toArray⟩ : ByteArray).data.toList = headsFrom true s.data.toList from rfl, show (⟨(name.data.toList.map lowB).toArray⟩ : ByteArray).data.toList = name.data.toList.map lowB from rfl] at T
  generalize firstV (name.data.toList.map lowB) (cutsL 10 (headsFrom true s.data.toList)) = r at *
  obtain ⟨rv, rb⟩ := r
  simp only at T LN
  have KC := hide (fun W => Clone_any ⟨rv.toArray⟩ W (by show rv.length ≤ _; omega))
  clear hh hl LN
  generalize (⟨(headsFrom true s.data.toList).toArray⟩ : ByteArray) = X at *
  generalize (⟨(bodyL s.data.toList).toArray⟩ : ByteArray) = Y at *
  generalize (⟨(name.data.toList.map lowB).toArray⟩ : ByteArray) = Z at *
  go_enter Tryz.func71, Tryz.ntmps71
  go_wp2_with fail
  refine (unhide C).mono ?_
  rintro e w1 ⟨rfl, hb⟩
  have B1 := hide hb
  clear hb
  go_wp2_with fail
  refine (unhide S _).mono ?_
  rintro e w2 ⟨rfl, hb⟩
  have B2 := hide ((unhide B1).trans (hb.mono (unhide B1).size))
  clear hb
  go_wp2_with fail
  refine (unhide T _).mono ?_
  rintro e w3 ⟨rfl, hb⟩
  have B3 := hide ((unhide B2).trans (hb.mono (unhide B2).size))
  clear hb
  go_wp2_with fail
  refine (unhide KC _).mono ?_
  rintro e w4 ⟨rfl, hb⟩
  have B4 := hide ((unhide B3).trans (hb.mono (unhide B3).size))
  clear hb
  go_wp2
  go_ret2
  exact ⟨by rw [unhide V]; rfl, unhide B4⟩
end Go.Proofs.YtihdgfihdecalaaGreatDoor
