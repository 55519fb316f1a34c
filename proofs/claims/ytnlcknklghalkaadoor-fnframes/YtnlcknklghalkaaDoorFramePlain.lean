/- Plain facts on frames: what stands at a place, and all that a file begins with. Nothing of the program stands here. -/
import Derived.Test.YtnlcknklghalkaaDoorReadPlain
import Derived.Test.YtnlcknklghalkaaDoorSumPlain
namespace Go.Proofs.YtnlcknklghalkaaDoor.Plain
open Go.RowKit

/-- The bytes of a frame. -/
def frameL (t : List UInt8) : List UInt8 := varL t.length ++ four (sumOf t) ++ t

/-- The frame that stands at A: its record, and the place behind it. -/
def frL (l : List UInt8) (A : Nat) : Option (List UInt8 × Nat) :=
  match rdL 5 [] (l.drop A) with
  | none => none
  | some (n, d) =>
    if A + d + 4 + n ≤ l.length ∧ 1 ≤ n ∧ n ≤ 9000 ∧ four (sumOf (seg l (A + d + 4) (A + d + 4 + n))) = seg l (A + d) (A + d + 4) then
      some (seg l (A + d + 4) (A + d + 4 + n), A + d + 4 + n)
    else none

theorem frL_none {l : List UInt8} {A : Nat} (h : rdL 5 [] (l.drop A) = none) : frL l A = none := by
  unfold frL; rw [h]
theorem frL_no {l : List UInt8} {A n d : Nat} (h : rdL 5 [] (l.drop A) = some (n, d))
    (h2 : ¬ (A + d + 4 + n ≤ l.length ∧ 1 ≤ n ∧ n ≤ 9000 ∧ four (sumOf (seg l (A + d + 4) (A + d + 4 + n))) = seg l (A + d) (A + d + 4))) : frL l A = none := by
  unfold frL; rw [h]; exact if_neg h2
theorem frL_yes {l : List UInt8} {A n d : Nat} (h : rdL 5 [] (l.drop A) = some (n, d)) (h1 : A + d + 4 + n ≤ l.length) (h2 : 1 ≤ n) (h3 : n ≤ 9000)
    (h4 : four (sumOf (seg l (A + d + 4) (A + d + 4 + n))) = seg l (A + d) (A + d + 4)) : frL l A = some (seg l (A + d + 4) (A + d + 4 + n), A + d + 4 + n) := by
  unfold frL; rw [h]; exact if_pos ⟨h1, h2, h3, h4⟩

theorem frL_some {l : List UInt8} {A e : Nat} {t : List UInt8} (h : frL l A = some (t, e)) : A < e ∧ e ≤ l.length ∧ t.length ≤ 9000 ∧ 1 ≤ t.length := by
  unfold frL at h
  split at h
  · cases h
  · rename_i n d hr
    split at h
    · rename_i hc
      obtain ⟨h1, h2, h3, _⟩ := hc
      simp only [Option.some.injEq, Prod.mk.injEq] at h
      obtain ⟨rfl, rfl⟩ := h
      rw [seg_length h1]
      omega
    · cases h

/-- All frames from A on, with fuel. -/
def frsF : Nat → List UInt8 → Nat → List (List UInt8 × Nat)
  | 0, _, _ => []
  | f + 1, l, A => match frL l A with
    | none => []
    | some (t, e) => (t, e) :: frsF f l e

theorem frL_end {l : List UInt8} {A : Nat} (h : l.length ≤ A) : frL l A = none := by
  cases hx : frL l A with
  | none => rfl
  | some x => have := frL_some (t := x.1) (e := x.2) hx; omega

theorem frsF_fuel (l : List UInt8) : ∀ (f g A : Nat), l.length - A ≤ f → l.length - A ≤ g → frsF f l A = frsF g l A := by
  intro f
  induction f with
  | zero =>
    intro g A h1 h2
    cases g with
    | zero => rfl
    | succ g => rw [frsF, frsF, frL_end (by omega)]
  | succ f ih =>
    intro g A h1 h2
    cases g with
    | zero => rw [frsF, frsF, frL_end (by omega)]
    | succ g =>
      rw [frsF, frsF]
      cases hx : frL l A with
      | none => rfl
      | some x =>
        obtain ⟨t, e⟩ := x
        have h := frL_some hx
        show (t, e) :: frsF f l e = (t, e) :: frsF g l e
        rw [ih g e (by omega) (by omega)]

/-- All frames from A on. -/
def frs (l : List UInt8) (A : Nat) : List (List UInt8 × Nat) := frsF (l.length - A) l A

theorem frs_none {l : List UInt8} {A : Nat} (h : frL l A = none) : frs l A = [] := by
  unfold frs
  cases l.length - A with
  | zero => rfl
  | succ f => rw [frsF, h]
theorem frs_some {l : List UInt8} {A e : Nat} {t : List UInt8} (h : frL l A = some (t, e)) : frs l A = (t, e) :: frs l e := by
  have hx := frL_some h
  unfold frs
  rw [show l.length - A = (l.length - A - 1) + 1 from by omega, frsF, h]
  show (t, e) :: frsF _ l e = _
  rw [frsF_fuel l (l.length - A - 1) (l.length - e) e (by omega) (by omega)]
theorem frs_length (l : List UInt8) (A : Nat) : (frs l A).length ≤ l.length := by
  have h : ∀ (f A : Nat), (frsF f l A).length ≤ f := by
    intro f
    induction f with
    | zero => intro A; simp [frsF]
    | succ f ih =>
      intro A
      rw [frsF]
      cases hx : frL l A with
      | none => simp
      | some x => obtain ⟨t, e⟩ := x; simpa using ih e
  have := h (l.length - A) A
  unfold frs
  omega

/-- The place behind the last of these. -/
def endL (x : List (List UInt8 × Nat)) : Nat := (x.getLast?.map (·.2)).getD 0
theorem endL_nil : endL [] = 0 := rfl
theorem endL_snoc (x : List (List UInt8 × Nat)) (y : List UInt8 × Nat) : endL (x ++ [y]) = y.2 := by
  unfold endL; rw [List.getLast?_concat]; rfl

/-- What is read is the number's own bytes. -/
theorem rd_bytes {f : Nat} {pre r : List UInt8} {n d : Nat} (h : rdL f pre r = some (n, d)) : varL n = pre ++ r.take (d - pre.length) ∧ pre.length < d := by
  induction f generalizing pre r with
  | zero => simp [rdL] at h
  | succ f ih =>
    cases r with
    | nil => simp [rdL] at h
    | cons b r =>
      rw [rdL] at h
      split at h
      · split at h
        · rename_i h3
          simp at h
          obtain ⟨h1, h2⟩ := h
          subst h1 h2
          refine ⟨?_, by omega⟩
          rw [h3.2, show pre.length + 1 - pre.length = 1 from by omega]
          rfl
        · cases h
      · obtain ⟨h1, h2⟩ := ih h
        rw [List.length_append] at h1 h2
        simp at h1 h2
        refine ⟨?_, by omega⟩
        rw [h1, show d - pre.length = (d - (pre.length + 1)) + 1 from by omega, List.take_succ_cons]
theorem rd_seg {l : List UInt8} {A n d : Nat} (h : rdL 5 [] (l.drop A) = some (n, d)) : varL n = seg l A (A + d) := by
  have := (rd_bytes h).1
  rw [this]
  unfold seg
  rw [List.drop_take]
  simp
theorem rd_more {f : Nat} {pre r : List UInt8} {x : Nat × Nat} (h : rdL f pre r = some x) (s : List UInt8) : rdL f pre (r ++ s) = some x := by
  induction f generalizing pre r with
  | zero => simp [rdL] at h
  | succ f ih =>
    cases r with
    | nil => simp [rdL] at h
    | cons b r =>
      rw [List.cons_append]
      rw [rdL] at h ⊢
      split at h
      · rename_i hb
        rw [if_pos hb]; exact h
      · rename_i hb
        rw [if_neg hb]
        exact ih h

theorem seg_cat {l : List UInt8} {a b c : Nat} (h1 : a ≤ b) (h2 : b ≤ c) : seg l a c = seg l a b ++ seg l b c := by
  unfold seg
  rw [List.drop_take, List.drop_take, List.drop_take, show c - a = (b - a) + (c - b) from by omega, List.take_add, List.drop_drop, show a + (b - a) = b from by omega]

/-- The specification's way to hold a frame against the file is ours. -/
theorem frame_same {l : List UInt8} {A n d : Nat} (h : rdL 5 [] (l.drop A) = some (n, d)) (h1 : A + d + 4 + n ≤ l.length) :
    (frameL (seg l (A + d + 4) (A + d + 4 + n)) = seg l A (A + d + 4 + n)) ↔ four (sumOf (seg l (A + d + 4) (A + d + 4 + n))) = seg l (A + d) (A + d + 4) := by
  rw [seg_cat (l := l) (a := A) (b := A + d) (c := A + d + 4 + n) (by omega) (by omega), seg_cat (l := l) (a := A + d) (b := A + d + 4) (c := A + d + 4 + n) (by omega) (by omega)]
  unfold frameL
  rw [seg_length h1, show A + d + 4 + n - (A + d + 4) = n from by omega, rd_seg h, List.append_assoc]
  constructor
  · intro e
    exact List.append_cancel_right (List.append_cancel_left e)
  · intro e
    rw [e]

/-- The answer of a reading of one frame. -/
def frV : Option (List UInt8 × Nat) → Value
  | some (t, e) => .tuple #[.string ⟨t.toArray⟩, .int .i64 (e : Int), .bool true]
  | none => .tuple #[.string ⟨#[]⟩, .int .i64 0, .bool false]
end Go.Proofs.YtnlcknklghalkaaDoor.Plain
