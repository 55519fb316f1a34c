/- The set that a text tells, plainly. Nothing of the program stands here. -/
import Derived.Test.YtkjlponggednoacSetPlain
import Derived.Test.YtkjlponggednoacReadPlain
namespace Go.Proofs.Ytkjlponggednoac.Plain
open Go.RowKit
set_option linter.unusedVariables false

/-- Pieces with c between. -/
def cutsL (c : UInt8) : List UInt8 → List (List UInt8)
  | [] => [[]]
  | b :: r => if b = c then [] :: cutsL c r else match cutsL c r with
    | h :: t => (b :: h) :: t
    | [] => [[b]]
theorem cuts_one {c : UInt8} : ∀ (p : List UInt8), (∀ b ∈ p, b ≠ c) → cutsL c p = [p] := by
  intro p
  induction p with
  | nil => intro _; rfl
  | cons b r ih =>
    intro h
    rw [cutsL, if_neg (h b (by simp)), ih (fun x hx => h x (by simp [hx]))]
theorem cuts_at {c : UInt8} : ∀ (p r : List UInt8), (∀ b ∈ p, b ≠ c) → cutsL c (p ++ c :: r) = p :: cutsL c r := by
  intro p
  induction p with
  | nil => intro r _; rw [List.nil_append, cutsL, if_pos rfl]
  | cons b q ih =>
    intro r h
    rw [List.cons_append, cutsL, if_neg (h b (by simp)), ih r (fun x hx => h x (by simp [hx]))]

def figOk (b : UInt8) : Bool := decide (48 ≤ b.toNat) && decide (b.toNat ≤ 57)
def figsV (t : List UInt8) : Int := t.foldl (fun n b => 10 * n + (b.toNat : Int) - 48) 0
theorem figsV_snoc (t : List UInt8) (b : UInt8) : figsV (t ++ [b]) = 10 * figsV t + (b.toNat : Int) - 48 := by simp [figsV]
theorem figs_from : ∀ (t : List UInt8) (n : Int), 0 ≤ n → t.all figOk = true → 0 ≤ t.foldl (fun n b => 10 * n + (b.toNat : Int) - 48) n ∧ t.foldl (fun n b => 10 * n + (b.toNat : Int) - 48) n < (n + 1) * 10 ^ t.length := by
  intro t
  induction t with
  | nil => intro n hn _; simp; omega
  | cons b t ih =>
    intro n hn h
    rw [List.all_cons, Bool.and_eq_true] at h
    have hb : 48 ≤ b.toNat ∧ b.toNat ≤ 57 := by simpa [figOk] using h.1
    obtain ⟨i1, i2⟩ := ih (10 * n + (b.toNat : Int) - 48) (by omega) h.2
    rw [List.foldl_cons, List.length_cons]
    refine ⟨i1, Int.lt_of_lt_of_le i2 ?_⟩
    have hp : (0 : Int) ≤ 10 ^ t.length := Int.pow_nonneg (by decide)
    have := Int.mul_le_mul_of_nonneg_right (show 10 * n + (b.toNat : Int) - 48 + 1 ≤ (n + 1) * 10 by omega) hp
    rw [Int.pow_succ, Int.mul_comm (10 ^ t.length) 10, ← Int.mul_assoc]
    exact this
theorem figsV_bound (t : List UInt8) (h : t.all figOk = true) : 0 ≤ figsV t ∧ figsV t < 10 ^ t.length := by
  have := figs_from t 0 (Int.le_refl _) h
  simpa [figsV] using this
/-- The number of a part. -/
def numV (t : List UInt8) (last : Int) : Int × Bool :=
  if t = [42] then (last, true)
  else if 1 ≤ t.length ∧ t.length ≤ 4 then (if t.all figOk then (figsV t, decide (1 ≤ figsV t)) else (0, false))
  else (0, false)
theorem num_ok {t : List UInt8} {last : Int} (h1 : 1 ≤ last) (h2 : last ≤ 9999) (h : (numV t last).2 = true) : 1 ≤ (numV t last).1 ∧ (numV t last).1 ≤ 9999 := by
  unfold numV at h ⊢
  split
  · exact ⟨h1, h2⟩
  · rename_i hs
    rw [if_neg hs] at h
    split
    · rename_i hl
      rw [if_pos hl] at h
      split
      · rename_i ha
        rw [if_pos ha] at h
        have := figsV_bound t ha
        have hp : (10 : Int) ^ t.length ≤ 10000 := by
          have : t.length = 1 ∨ t.length = 2 ∨ t.length = 3 ∨ t.length = 4 := by omega
          rcases this with e | e | e | e <;> rw [e] <;> decide
        have h3 : 1 ≤ figsV t := by simpa using h
        exact ⟨h3, by omega⟩
      · rename_i ha
        rw [if_neg ha] at h
        cases h
    · rename_i hl
      rw [if_neg hl] at h
      cases h
def upV (x y : Int × Bool) : Int × Int × Bool := if y.1 < x.1 then (y.1, x.1, x.2 && y.2) else (x.1, y.1, x.2 && y.2)
/-- What a part tells: i is the place of its first ':'. -/
def partV (t : List UInt8) (last : Int) : Int × Int × Bool :=
  match t.idxOf? 58 with
  | some i => upV (numV (t.take i) last) (numV (t.drop (i + 1)) last)
  | none => ((numV t last).1, (numV t last).1, (numV t last).2)
theorem part_at {t : List UInt8} {last : Int} {i : Nat} (h1 : ∀ b ∈ t.take i, b ≠ 58) (h2 : t[i]? = some 58) : partV t last = upV (numV (t.take i) last) (numV (t.drop (i + 1)) last) := by
  have hi : i < t.length := (List.getElem?_eq_some_iff.1 h2).1
  have e : t.idxOf? 58 = some i := by
    unfold List.idxOf?
    rw [List.findIdx?_eq_some_iff_getElem]
    refine ⟨hi, ?_, fun j hj => ?_⟩
    · simp [(List.getElem?_eq_some_iff.1 h2).2]
    · have hm : t[j] ∈ t.take i := by
        rw [List.mem_take_iff_getElem]
        exact ⟨j, by omega, rfl⟩
      simpa using h1 _ hm
  unfold partV
  rw [e]
theorem part_no {t : List UInt8} {last : Int} (h : ∀ b ∈ t, b ≠ 58) : partV t last = ((numV t last).1, (numV t last).1, (numV t last).2) := by
  have e : t.idxOf? 58 = none := by
    unfold List.idxOf?
    rw [List.findIdx?_eq_none_iff]
    intro x hx
    simpa using h x hx
  unfold partV
  rw [e]
theorem part_ok {t : List UInt8} {last : Int} (h1 : 1 ≤ last) (h2 : last ≤ 9999) (h : (partV t last).2.2 = true) : 1 ≤ (partV t last).1 ∧ (partV t last).1 ≤ (partV t last).2.1 ∧ (partV t last).2.1 ≤ 9999 := by
  unfold partV at h ⊢
  split
  · rename_i i hi
    rw [hi] at h
    simp only at h
    unfold upV at h ⊢
    have hb : (numV (t.take i) last).2 = true ∧ (numV (t.drop (i + 1)) last).2 = true := by
      split at h <;> simpa using h
    have a := num_ok h1 h2 hb.1
    have b := num_ok h1 h2 hb.2
    split
    · simp only; omega
    · simp only; omega
  · rename_i hi
    rw [hi] at h
    have a := num_ok h1 h2 h
    simp only
    omega
/-- What the parts mark. -/
def marksV (ps : List (List UInt8)) (last : Int) (n : Nat) : Bool := ps.any fun p => decide ((partV p last).1 ≤ (n : Int)) && decide ((n : Int) ≤ (partV p last).2.1)
theorem marksV_snoc (ps : List (List UInt8)) (p : List UInt8) (last : Int) (n : Nat) : marksV (ps ++ [p]) last n = (marksV ps last n || (decide ((partV p last).1 ≤ (n : Int)) && decide ((n : Int) ≤ (partV p last).2.1))) := by simp [marksV]
def okParts (ps : List (List UInt8)) (last : Int) : Bool := ps.all fun p => (partV p last).2.2
theorem okParts_snoc (ps : List (List UInt8)) (p : List UInt8) (last : Int) : okParts (ps ++ [p]) last = (okParts ps last && (partV p last).2.2) := by simp [okParts]
/-- The set that a text tells. -/
def readV (l : List UInt8) (last : Int) : List Rg × Bool :=
  if 1 ≤ last ∧ last ≤ 9999 ∧ okParts (cutsL 44 l) last = true then setV (marksV (cutsL 44 l) last) else ([], false)
theorem readV_no {l : List UInt8} {last : Int} (h : ¬ (1 ≤ last ∧ last ≤ 9999 ∧ okParts (cutsL 44 l) last = true)) : readV l last = ([], false) := if_neg h
theorem readV_in {l : List UInt8} {last : Int} (h : 1 ≤ last ∧ last ≤ 9999 ∧ okParts (cutsL 44 l) last = true) : readV l last = setV (marksV (cutsL 44 l) last) := if_pos h
theorem marks_zero {ps : List (List UInt8)} {last : Int} (h1 : 1 ≤ last) (h2 : last ≤ 9999) (h : okParts ps last = true) : marksV ps last 0 = false := by
  cases hx : marksV ps last 0 with
  | false => rfl
  | true =>
    unfold marksV at hx
    rw [List.any_eq_true] at hx
    obtain ⟨p, hp, hm⟩ := hx
    have ho : (partV p last).2.2 = true := by
      unfold okParts at h
      rw [List.all_eq_true] at h
      exact h p hp
    have := part_ok h1 h2 ho
    simp at hm
    omega

/-- Behind some rounds of the reading. -/
def CutInv (l : List UInt8) (i b : Nat) (done : List (List UInt8)) : Prop :=
  (i ≤ l.length ∧ b ≤ i ∧ done ++ cutsL 44 (l.drop b) = cutsL 44 l ∧ ∀ x ∈ seg l b i, x ≠ 44) ∨ (i = l.length + 1 ∧ done = cutsL 44 l)
theorem CutInv.start (l : List UInt8) : CutInv l 0 0 [] := .inl ⟨Nat.zero_le _, Nat.le_refl _, by simp, by simp [seg]⟩
theorem CutInv.on {l : List UInt8} {i b : Nat} {done : List (List UInt8)} {x : UInt8} (h : CutInv l i b done) (hx : l[i]? = some x) (hn : x ≠ 44) : CutInv l (i + 1) b done := by
  have hi : i < l.length := (List.getElem?_eq_some_iff.1 hx).1
  rcases h with ⟨h1, h2, h3, h4⟩ | ⟨h1, _⟩
  · refine .inl ⟨by omega, by omega, h3, fun y hy => ?_⟩
    rw [seg_succ h2 hx] at hy
    rcases List.mem_append.1 hy with hy | hy
    · exact h4 y hy
    · simp at hy; rw [hy]; exact hn
  · omega
theorem drop_seg {l : List UInt8} {b i : Nat} (h : b ≤ i) : l.drop b = seg l b i ++ l.drop i := by
  unfold seg
  rw [List.drop_take]
  have : l.drop i = (l.drop b).drop (i - b) := by rw [List.drop_drop]; congr 1; omega
  rw [this, List.take_append_drop]
theorem CutInv.cut {l : List UInt8} {i b : Nat} {done : List (List UInt8)} (h : CutInv l i b done) (hi : i ≤ l.length) (hx : i = l.length ∨ l[i]? = some 44) : CutInv l (i + 1) (i + 1) (done ++ [seg l b i]) ∧ b ≤ i := by
  rcases h with ⟨h1, h2, h3, h4⟩ | ⟨h1, _⟩
  · refine ⟨?_, h2⟩
    rcases hx with e | e
    · refine .inr ⟨by omega, ?_⟩
      rw [← h3]
      congr 1
      rw [drop_seg h2, e, List.drop_length, List.append_nil, ← e]
      exact (cuts_one _ h4).symm
    · have hl : i < l.length := (List.getElem?_eq_some_iff.1 e).1
      refine .inl ⟨by omega, Nat.le_refl _, ?_, by rw [seg_same]; intro x hx; cases hx⟩
      rw [← h3, drop_seg h2, drop_eq e, cuts_at _ _ h4]
      simp
  · omega
theorem CutInv.parts {l : List UInt8} {i b : Nat} {done : List (List UInt8)} (h : CutInv l i b done) : ∃ r, done ++ r = cutsL 44 l := by
  rcases h with ⟨_, _, h3, _⟩ | ⟨_, h2⟩
  · exact ⟨_, h3⟩
  · exact ⟨[], by simpa using h2⟩
theorem CutInv.stop {l : List UInt8} {i b : Nat} {done : List (List UInt8)} (h : CutInv l i b done) {last : Int} (hno : okParts done last = false) : okParts (cutsL 44 l) last = false := by
  obtain ⟨r, hr⟩ := h.parts
  rw [← hr]
  unfold okParts at hno ⊢
  rw [List.all_append, hno]; rfl
theorem CutInv.done {l : List UInt8} {i b : Nat} {done : List (List UInt8)} (h : CutInv l i b done) (hi : ¬ i ≤ l.length) : done = cutsL 44 l := by
  rcases h with ⟨h1, _⟩ | ⟨_, h2⟩
  · exact absurd h1 hi
  · exact h2
theorem CutInv.le {l : List UInt8} {i b : Nat} {done : List (List UInt8)} (h : CutInv l i b done) : i ≤ l.length + 1 := by
  rcases h with ⟨h1, _⟩ | ⟨h1, _⟩ <;> omega
end Go.Proofs.Ytkjlponggednoac.Plain
