/- A set comes back from its text; texts one behind the other. Nothing of the program's own stands here. -/
import Derived.Test.YtecognggnbopaacDoorSetText
import Derived.Test.YtecognggnbopaacDoorPlainA
namespace Go.Proofs.YtecognggnbopaacDoor.Plain
open Go.RowKit
set_option linter.unusedVariables false

theorem cuts_append (c : UInt8) : ∀ (a b : List UInt8), cutsL c (a ++ c :: b) = cutsL c a ++ cutsL c b := by
  intro a
  induction a with
  | nil =>
    intro b
    have e : cutsL c (c :: b) = [] :: cutsL c b := by rw [cutsL]; exact if_pos rfl
    rw [List.nil_append, e]; rfl
  | cons x a ih =>
    intro b
    rw [List.cons_append, cutsL, cutsL]
    by_cases hx : x = c
    · rw [if_pos hx, if_pos hx, ih]; rfl
    · rw [if_neg hx, if_neg hx, ih]
      cases hc : cutsL c a with
      | nil =>
        exfalso
        cases a with
        | nil => simp [cutsL] at hc
        | cons y a =>
          rw [cutsL] at hc
          split at hc
          · cases hc
          · split at hc <;> cases hc
      | cons h t => rfl
theorem piece_plain {r : Rg} (h1 : 1 ≤ r.lo) (h2 : r.lo ≤ r.hi) : ∀ b ∈ piece r, b ≠ 44 := by
  intro b hb
  unfold piece at hb
  rcases List.mem_append.1 hb with hb | hb
  · exact (itoa_plain (by omega) b hb).2
  · split at hb
    · rcases List.mem_cons.1 hb with hb | hb
      · rw [hb]; decide
      · exact (itoa_plain (by omega) b hb).2
    · cases hb
theorem part_back {r : Rg} {last : Int} (h1 : 1 ≤ r.lo) (h2 : r.lo ≤ r.hi) (h3 : r.hi ≤ 9999) : partV (piece r) last = (r.lo, r.hi, true) := by
  unfold piece
  by_cases hlt : r.lo < r.hi
  · rw [if_pos hlt]
    have e := part_at (t := Lib.itoa r.lo ++ 58 :: Lib.itoa r.hi) (last := last) (i := (Lib.itoa r.lo).length) (by rw [List.take_left]; exact fun b hb => (itoa_plain (by omega) b hb).1) (by simp)
    rw [e, List.take_left, show (Lib.itoa r.lo ++ 58 :: Lib.itoa r.hi).drop ((Lib.itoa r.lo).length + 1) = Lib.itoa r.hi by rw [← List.drop_drop, List.drop_left]; rfl]
    rw [num_back h1 (by omega), num_back (by omega) h3]
    unfold upV
    rw [if_neg (by show ¬ r.hi < r.lo; omega)]
    rfl
  · rw [if_neg hlt, List.append_nil, part_no (fun b hb => (itoa_plain (by omega) b hb).1), num_back h1 (by omega)]
    have : r.lo = r.hi := by omega
    rw [← this]
theorem cuts_text {s : List Rg} (h : okFrom (-1) s = true) : ∀ k, k < s.length → cutsL 44 (textTo s (k + 1)) = (s.take (k + 1)).map piece := by
  intro k
  induction k with
  | zero =>
    intro hk
    have hr : s[0]? = some s[0] := List.getElem?_eq_getElem hk
    obtain ⟨o1, o2, o3⟩ := ok_at h hr
    rw [textTo_succ hr, if_neg (Nat.lt_irrefl 0), ok_snoc hr]
    show cutsL 44 ([] ++ [] ++ piece s[0]) = _
    rw [List.nil_append, List.nil_append, cuts_one _ (piece_plain o1 o2)]
    rfl
  | succ k ih =>
    intro hk
    have hr : s[k + 1]? = some s[k + 1] := List.getElem?_eq_getElem hk
    obtain ⟨o1, o2, o3⟩ := ok_at h hr
    rw [textTo_succ hr, if_pos (Nat.succ_pos k), ok_snoc hr, List.append_assoc]
    show cutsL 44 (textTo s (k + 1) ++ 44 :: piece s[k + 1]) = _
    rw [cuts_append, ih (by omega), cuts_one _ (piece_plain o1 o2), List.map_append]
    rfl
theorem cuts_set {s : List Rg} (h : okS s = true) (hne : s ≠ []) : cutsL 44 (setTextL s) = s.map piece := by
  have hl : 0 < s.length := List.length_pos_iff.2 hne
  have := cuts_text (okS_parts h).1 (s.length - 1) (by omega)
  rw [show s.length - 1 + 1 = s.length from by omega, List.take_length] at this
  rw [setTextL_in h, this]
theorem ok_mem {s : List Rg} (h : okFrom (-1) s = true) {r : Rg} (hr : r ∈ s) : 1 ≤ r.lo ∧ r.lo ≤ r.hi ∧ r.hi ≤ 9999 := by
  obtain ⟨k, hk⟩ := List.getElem?_of_mem hr
  exact ok_at h hk
theorem okParts_set {s : List Rg} {last : Int} (h : okS s = true) : okParts (s.map piece) last = true := by
  unfold okParts
  rw [List.all_eq_true]
  intro p hp
  obtain ⟨r, hr, rfl⟩ := List.mem_map.1 hp
  obtain ⟨o1, o2, o3⟩ := ok_mem (okS_parts h).1 hr
  rw [part_back o1 o2 o3]
theorem marks_set {s : List Rg} {last : Int} (h : okS s = true) : marksV (s.map piece) last = bitsOf s := by
  funext n
  have ho := (okS_parts h).1
  unfold marksV bitsOf hasB
  rw [List.any_map]
  have : ∀ (l : List Rg), (∀ r ∈ l, 1 ≤ r.lo ∧ r.lo ≤ r.hi ∧ r.hi ≤ 9999) → l.any ((fun p => decide ((partV p last).1 ≤ (n : Int)) && decide ((n : Int) ≤ (partV p last).2.1)) ∘ piece) = l.any fun r => decide (r.lo ≤ (n : Int)) && decide ((n : Int) ≤ r.hi) := by
    intro l
    induction l with
    | nil => intro _; rfl
    | cons r t ih =>
      intro hl
      obtain ⟨o1, o2, o3⟩ := hl r (by simp)
      rw [List.any_cons, List.any_cons, ih (fun x hx => hl x (by simp [hx]))]
      simp only [Function.comp, part_back o1 o2 o3]
  exact this s (fun r hr => ok_mem ho hr)
/-- A set comes back from its text. -/
theorem read_text {s : List Rg} {last : Int} (h : okS s = true) (hne : s ≠ []) (h1 : 1 ≤ last) (h2 : last ≤ 9999) : readV (setTextL s) last = (s, true) := by
  rw [readV_in (by rw [cuts_set h hne]; exact ⟨h1, h2, okParts_set h⟩), cuts_set h hne, marks_set h]
  unfold setV
  rw [set_back (okS_parts h).1, if_pos (okS_parts h).2]
theorem text_empty {s : List Rg} (h : okS s = true) : setTextL s = [] ↔ s = [] := by
  constructor
  · intro e
    cases hs : s with
    | nil => rfl
    | cons r t =>
      exfalso
      have hne : s ≠ [] := by rw [hs]; simp
      have hc := cuts_set h hne
      rw [e, hs] at hc
      have hr := ok_mem (okS_parts h).1 (show r ∈ s by rw [hs]; simp)
      have hp : piece r = [] := by
        have : ([] : List UInt8) = piece r := by
          simp [cutsL] at hc
          exact hc.1.symm
        exact this.symm
      have hb := part_back (last := 1) hr.1 hr.2.1 hr.2.2
      rw [hp] at hb
      have : partV [] 1 = ((numV [] 1).1, (numV [] 1).1, (numV [] 1).2) := part_no (by simp)
      rw [this] at hb
      have hz : (numV [] 1).2 = true := by have := congrArg (fun x => x.2.2) hb; exact this
      revert hz
      decide
  · intro e; subst e; rfl
end Go.Proofs.YtecognggnbopaacDoor.Plain
