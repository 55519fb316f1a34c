/- Commands, plainly: a list in parentheses, as it is cut at its blanks. -/
import Derived.Test.YtjaohlnejkgkaaaGreatDoorCmPlain
import Derived.Test.YtjaohlnejkgkaaaGreatDoorFlagCutPlain
namespace Go.Proofs.YtjaohlnejkgkaaaGreatDoor.Plain
open Go.RowKit
set_option linter.unusedVariables false

def okIn : Bool → Nat → List UInt8 → Bool
  | st, n, [] => !(decide (n = 0) && !st)
  | st, n, b :: r => if b = 32 then (if n = 0 then false else okIn false 0 r) else if plB b = false ∨ n = 60 then false else okIn false (n + 1) r
theorem plB_41 : plB 41 = false := by decide
theorem okIn_41 (st : Bool) (n : Nat) (q : List UInt8) : okIn st n (41 :: q) = false := by
  rw [okIn, if_neg (by decide), if_pos (Or.inl plB_41)]
theorem scan_is (r : List UInt8) : ∀ (st : Bool) (n k : Nat), 1 ≤ k → (scanL st n k r = ((k + r.length : Nat) : Int) ↔ ∃ q, r = q ++ [41] ∧ okIn st n q = true) := by
  induction r with
  | nil =>
    intro st n k hk
    constructor
    · intro h; rw [scanL] at h; simp at h; omega
    · rintro ⟨q, hq, _⟩; have := congrArg List.length hq; simp at this
  | cons b r ih =>
    intro st n k hk
    by_cases h1 : b = 41
    · subst h1
      rw [scanL, if_pos rfl]
      by_cases h2 : n = 0 ∧ st = false
      · rw [if_pos h2]
        obtain ⟨rfl, rfl⟩ := h2
        constructor
        · intro h; exfalso; omega
        · rintro ⟨q, hq, ho⟩
          cases q with
          | nil => exact absurd ho (by decide)
          | cons c q => have := (List.cons.inj (show 41 :: r = c :: (q ++ [41]) from hq)).1; subst this; rw [okIn_41] at ho; cases ho
      · rw [if_neg h2]
        constructor
        · intro h
          have : r = [] := by
            apply List.eq_nil_of_length_eq_zero
            rw [List.length_cons] at h; omega
          subst this
          refine ⟨[], rfl, ?_⟩
          rw [okIn]
          cases st
          · simp at h2 ⊢; exact h2
          · simp
        · rintro ⟨q, hq, ho⟩
          cases q with
          | nil => have := (List.cons.inj (show 41 :: r = 41 :: [] from hq)).2; subst this; simp
          | cons c q => have := (List.cons.inj (show 41 :: r = c :: (q ++ [41]) from hq)).1; subst this; rw [okIn_41] at ho; cases ho
    · have key : ∀ (m : Nat), (scanL false m (k + 1) r = (((k + (b :: r).length : Nat)) : Int) ↔ ∃ q, r = q ++ [41] ∧ okIn false m q = true) := by
        intro m
        have := ih false m (k + 1) (by omega)
        rw [show k + 1 + r.length = k + (b :: r).length by rw [List.length_cons]; omega] at this
        exact this
      have out : ∀ (P : List UInt8 → Bool), (∀ q, okIn st n (b :: q) = P q) → ((∃ q, b :: r = q ++ [41] ∧ okIn st n q = true) ↔ ∃ q, r = q ++ [41] ∧ P q = true) := by
        intro P hP
        constructor
        · rintro ⟨q, hq, ho⟩
          cases q with
          | nil => exact absurd (List.cons.inj (show b :: r = 41 :: [] from hq)).1 h1
          | cons c q =>
            have hc := List.cons.inj (show b :: r = c :: (q ++ [41]) from hq)
            obtain ⟨rfl, hr⟩ := hc
            exact ⟨q, hr, by rw [← hP]; exact ho⟩
        · rintro ⟨q, rfl, ho⟩
          exact ⟨b :: q, rfl, by rw [hP]; exact ho⟩
      have no : ∀ (x : Int), x = -1 → (x = (((k + (b :: r).length : Nat)) : Int) ↔ ∃ q, r = q ++ [41] ∧ (fun (_ : List UInt8) => false) q = true) := by
        intro x hx
        constructor
        · intro h; exfalso; omega
        · rintro ⟨_, _, h⟩; cases h
      rw [scanL, if_neg h1]
      by_cases h2 : b = 32
      · rw [if_pos h2]
        by_cases h3 : n = 0
        · rw [if_pos h3, out (fun _ => false) (fun q => by rw [okIn, if_pos h2, if_pos h3])]; exact no _ rfl
        · rw [if_neg h3, out (okIn false 0) (fun q => by rw [okIn, if_pos h2, if_neg h3])]; exact key 0
      · rw [if_neg h2]
        by_cases h3 : plB b = false ∨ n = 60
        · rw [if_pos h3, out (fun _ => false) (fun q => by rw [okIn, if_neg h2, if_pos h3])]; exact no _ rfl
        · rw [if_neg h3, out (okIn false (n + 1)) (fun q => by rw [okIn, if_neg h2, if_neg h3])]; exact key (n + 1)
/-- The first cut goes on with a word that has n bytes. -/
def headCm (n : Nat) : List (List UInt8) → Bool
  | [] => false
  | p :: ps => p.all plB && (decide (1 ≤ n + p.length) && (decide (n + p.length ≤ 60) && ps.all plainW))
theorem plainW_nat (p : List UInt8) : plainW p = (p.all plB && (decide (1 ≤ p.length) && decide (p.length ≤ 60))) := by
  unfold plainW inI
  congr 1
  rw [Bool.eq_iff_iff]
  simp
  try omega
theorem cuts_ne (l : List UInt8) : cutsL 32 l ≠ [] := by
  cases l with
  | nil => rw [cutsL]; simp
  | cons b r => rw [cutsL]; split <;> (try split) <;> simp
theorem head0 (l : List (List UInt8)) (h : l ≠ []) : headCm 0 l = l.all plainW := by
  cases l with
  | nil => exact absurd rfl h
  | cons p ps => rw [headCm, List.all_cons, plainW_nat]; simp only [Nat.zero_add, Bool.and_assoc]
theorem okIn_is (q : List UInt8) : ∀ n, n ≤ 60 → okIn false n q = headCm n (cutsL 32 q) := by
  induction q with
  | nil =>
    intro n hn
    rw [okIn, cutsL, headCm]
    by_cases h : n = 0
    · subst h; decide
    · simp [h]; omega
  | cons b r ih =>
    intro n hn
    rw [okIn, cutsL]
    by_cases h2 : b = 32
    · rw [if_pos h2, if_pos h2, headCm]
      by_cases h3 : n = 0
      · subst h3; simp
      · rw [if_neg h3, ih 0 (by omega), head0 _ (cuts_ne r)]
        rw [List.all_nil, List.length_nil, Nat.add_zero, decide_eq_true (show 1 ≤ n by omega), decide_eq_true hn]; rfl
    · rw [if_neg h2, if_neg h2]
      cases hc : cutsL 32 r with
      | nil => exact absurd hc (cuts_ne r)
      | cons p ps =>
        show _ = headCm n ((b :: p) :: ps)
        rw [headCm, List.all_cons, List.length_cons]
        by_cases h3 : plB b = false ∨ n = 60
        · rw [if_pos h3]
          rcases h3 with h3 | rfl
          · rw [h3]; rfl
          · rw [show decide (60 + (p.length + 1) ≤ 60) = false from decide_eq_false (by omega)]; simp
        · rw [if_neg h3]
          have hb : plB b = true := by cases h : plB b with
            | false => exact absurd (Or.inl h) h3
            | true => rfl
          have hn2 : n ≠ 60 := fun h => h3 (Or.inr h)
          rw [ih (n + 1) (by omega), hc, headCm, hb, Bool.true_and, show n + (p.length + 1) = n + 1 + p.length by omega]
theorem okIn_true (q : List UInt8) : okIn true 0 q = (q.isEmpty || (cutsL 32 q).all plainW) := by
  cases q with
  | nil => rfl
  | cons b r =>
    rw [← head0 _ (cuts_ne _), ← okIn_is _ 0 (by omega)]
    rw [okIn, okIn]; simp
theorem rest_40 (r : List UInt8) : restF (40 :: r) = r := by
  unfold restF Lib.trimPrefix
  have : Lib.hasPrefix (40 :: r) [40] = true := by
    unfold Lib.hasPrefix
    rw [show List.isPrefixOf [40] (40 :: r) = ((40 : UInt8) == 40 && List.isPrefixOf [] r) from rfl, List.isPrefixOf_nil_left]; rfl
  rw [if_pos this]
  rfl
theorem open_is (b : UInt8) (r : List UInt8) : openB (b :: r) = (b == 40) := by
  unfold openB Lib.hasPrefix
  rw [show List.isPrefixOf [40] (b :: r) = ((40 : UInt8) == b && List.isPrefixOf [] r) from rfl, List.isPrefixOf_nil_left, Bool.and_true]
  exact BEq.comm
theorem listW_cut (l : List UInt8) : listW l = (openB l && shutB l && ((innerF l).isEmpty || (cutsL 32 (innerF l)).all plainW)) := by
  cases l with
  | nil => rfl
  | cons b r =>
    show (b == 40 && scanL true 0 1 r == ((r.length : Int) + 1)) = _
    rw [open_is]
    by_cases hb : b = 40
    · subst hb
      rw [show ((40 : UInt8) == 40) = true from rfl, Bool.true_and, Bool.true_and]
      have hx := scan_is r true 0 1 (by omega)
      have hz : ((1 + r.length : Nat) : Int) = (r.length : Int) + 1 := by omega
      rw [hz] at hx
      have e2 : shutB (40 :: r) = Lib.hasSuffix r [41] := by unfold shutB; rw [rest_40]
      have e3 : innerF (40 :: r) = Lib.trimSuffix r [41] := by unfold innerF; rw [rest_40]
      rw [e2, e3]
      rcases List.eq_nil_or_concat r with rfl | ⟨q, c, rfl⟩
      · decide
      · rw [List.concat_eq_append] at hx ⊢
        rw [suffix_snoc]
        by_cases hc : c = 41
        · subst hc
          have e4 : Lib.trimSuffix (q ++ [41]) [41] = q := by
            unfold Lib.trimSuffix
            rw [suffix_snoc, if_pos (by rfl)]
            simp
          rw [e4, ← okIn_true, show ((41 : UInt8) == 41) = true from rfl, Bool.true_and]
          have hy : (∃ q', q ++ [41] = q' ++ [41] ∧ okIn true 0 q' = true) ↔ okIn true 0 q = true := by
            constructor
            · rintro ⟨q', h1, h2⟩; rw [List.append_cancel_right h1]; exact h2
            · intro h; exact ⟨q, rfl, h⟩
          rw [hy] at hx
          rw [Bool.eq_iff_iff, beq_iff_eq]
          exact hx
        · rw [show (c == 41) = false by simpa using hc, Bool.false_and, beq_eq_false_iff_ne]
          intro h
          obtain ⟨q', h1, _⟩ := hx.1 h
          have := List.append_inj_right' h1 rfl
          exact hc (by simpa using this)
    · rw [show (b == 40) = false by simpa using hb]; rfl
end Go.Proofs.YtjaohlnejkgkaaaGreatDoor.Plain
