/- Commands: RcG, RcG2 in one text. -/
import Derived.Test.YtjaohlnejkgkaaaGreatDoorRcSp
import Derived.Test.YtjaohlnejkgkaaaGreatDoorRcP
namespace Go.Proofs.YtjaohlnejkgkaaaGreatDoor.Plain
set_option linter.unusedVariables false

/-- The reader stops for good within these bytes. -/
def Stop (s : Cs) (u : List UInt8) : Prop := ∃ v c r z, u = v ++ c :: r ∧ Run s v z ∧ (stepC z c).st = 15
theorem Stop.one {s y : Cs} {c : UInt8} {v : List UInt8} (h : nextC s.on c = (y, 15)) : Stop s (c :: v) :=
  ⟨[], c, v, s, rfl, rfl, by show ((nextC s.on c).1.to (nextC s.on c).2).st = 15; rw [h]; rfl⟩
theorem Stop.cons {s y : Cs} {c : UInt8} {n : Int} {v : List UInt8} (h : nextC s.on c = (y, n)) (h2 : n ≤ 13) (h3 : Stop (y.to n) v) : Stop s (c :: v) := by
  obtain ⟨a, d, r, z, rfl, h4, h5⟩ := h3
  exact ⟨c :: a, d, r, z, rfl, Run.cons h h2 h4, h5⟩
theorem Stop.app {s y : Cs} {v r : List UInt8} (h : Run s v y) (h2 : Stop y r) : Stop s (v ++ r) := by
  obtain ⟨a, d, q, z, rfl, h4, h5⟩ := h2
  exact ⟨v ++ a, d, q, z, by simp, Run.append _ h h4, h5⟩
/-- It reads all of them, and is not at an end. -/
def Live (s : Cs) (u : List UInt8) : Prop := ∃ z, Run s u z ∧ z.st ≤ 13
theorem Live.cons {s y : Cs} {c : UInt8} {n : Int} {v : List UInt8} (h : nextC s.on c = (y, n)) (h2 : n ≤ 13) (h3 : Live (y.to n) v) : Live s (c :: v) := by
  obtain ⟨z, h4, h5⟩ := h3
  exact ⟨z, Run.cons h h2 h4, h5⟩
theorem Live.nil {s : Cs} (h : s.st ≤ 13) : Live s [] := ⟨s, rfl, h⟩
theorem Live.app {s y : Cs} {v r : List UInt8} (h : Run s v y) (h2 : Live y r) : Live s (v ++ r) := by
  obtain ⟨z, h4, h5⟩ := h2
  exact ⟨z, Run.append _ h h4, h5⟩
/-- A text that ends behind the mark of a length, or behind 13 there. -/
def EndLit (u : List UInt8) : Prop := ∃ v d, figOk d = true ∧ (u = v ++ [d, 125] ∨ u = v ++ [d, 125, 13])
theorem EndLit.app {u : List UInt8} (v : List UInt8) (h : EndLit u) : EndLit (v ++ u) := by
  obtain ⟨a, d, h1, h2 | h2⟩ := h
  · exact ⟨v ++ a, d, h1, .inl (by rw [h2]; simp)⟩
  · exact ⟨v ++ a, d, h1, .inr (by rw [h2]; simp)⟩
/-- What a word's reading comes to on both sides: u is the text, p the place. -/
def WordIs (s : Cs) (W : List (List UInt8)) (p : Int) (u : List UInt8) (x : List UInt8) (n : Int) : Prop :=
  (p < n ∧ ∃ v r, u = v ++ r ∧ n = p + v.length ∧ ∃ z, Run s v z ∧ EndAble W x n z ∧ (z.st = 1 → ∀ c q, r = c :: q → plB c = false)) ∨
  (n = 0 ∧ (Live s u ∨ (Stop s u ∧ EndLit u))) ∨ (n = -1 ∧ Stop s u)

/-- In quotation marks. -/
theorem text_is : ∀ (m : Nat) (v : List UInt8), v.length ≤ m → ∀ (x : List UInt8) (p : Int) (s : Cs) (W : List (List UInt8)), s.st = 4 → s.words = W → s.word = x → s.taken = p → 
    (∃ a r z, v = a ++ r ∧ (textS x p v).2 = p + a.length ∧ 0 < a.length ∧ Run s a z ∧ z.st = 2 ∧ z.words = W ∧ z.word = (textS x p v).1 ∧ z.taken = p + a.length) ∨ (textS x p v = ([], 0) ∧ Live s v) ∨ (textS x p v = ([], -1) ∧ Stop s v) := by
  intro m
  induction m with
  | zero =>
    intro v hv x p s W h4 _ _ _
    obtain rfl := List.eq_nil_of_length_eq_zero (Nat.le_zero.1 hv)
    exact .inr (.inl ⟨text_nil x p, Live.nil (by omega)⟩)
  | succ m ih =>
    intro v hv x p s W h4 hW hx hp
    cases v with
    | nil => exact .inr (.inl ⟨text_nil x p, Live.nil (by omega)⟩)
    | cons b v =>
      rw [List.length_cons] at hv
      by_cases c1 : b = 34
      · subst c1
        rw [text_mark]
        have hn : nextC s.on 34 = (s.on, 2) := by rw [nx4 h4]; unfold quotedC; rw [if_pos rfl]
        exact .inl ⟨[34], v, s.on.to 2, rfl, by simp, by simp, Run.one hn (by decide), rfl, hW, hx, by show s.taken + 1 = _; rw [hp]; simp⟩
      · cases c2 : prB b with
        | false =>
          rw [text_bad c1 c2]
          have hb : b ≠ 92 := by rintro rfl; revert c2; decide
          have hn : nextC s.on b = (s.on, 15) := by rw [nx4 h4]; unfold quotedC; rw [if_neg c1, if_neg hb, if_neg (by rw [c2]; decide)]
          exact .inr (.inr ⟨rfl, Stop.one hn⟩)
        | true =>
          by_cases c3 : b = 92
          · subst c3
            have hn : nextC s.on 92 = (s.on, 5) := by rw [nx4 h4]; unfold quotedC; rw [if_neg (by decide), if_pos rfl]
            cases v with
            | nil => exact .inr (.inl ⟨text_end x p, Live.cons hn (by decide) (Live.nil (by show (5 : Int) ≤ 13; decide))⟩)
            | cons c v =>
              by_cases c4 : c = 34 ∨ c = 92
              · rw [text_esc c4]
                have hn2 : nextC (s.on.to 5).on c = ((s.on.to 5).on.keep c, 4) := by rw [nx5 (s := s.on.to 5) rfl, if_pos c4]
                rw [List.length_cons] at hv
                rcases ih v (by omega) (x ++ [c]) (p + 2) (((s.on.to 5).on.keep c).to 4) W rfl hW (by show s.word ++ [c] = _; rw [hx]) (by show s.taken + 1 + 1 = _; omega) with ⟨a, r, z, rfl, e1, e2, e3, e4, e5, e6, e7⟩ | ⟨e1, e2⟩ | ⟨e1, e2⟩
                · exact .inl ⟨92 :: c :: a, r, z, rfl, by rw [e1]; simp only [List.length_cons]; omega, by simp, Run.cons hn (by decide) (Run.cons hn2 (by decide) e3), e4, e5, e6, by rw [e7]; simp only [List.length_cons]; omega⟩
                · exact .inr (.inl ⟨e1, Live.cons hn (by decide) (Live.cons hn2 (by decide) e2)⟩)
                · exact .inr (.inr ⟨e1, Stop.cons hn (by decide) (Stop.cons hn2 (by decide) e2)⟩)
              · rw [text_esc_no c4]
                have hn2 : nextC (s.on.to 5).on c = ((s.on.to 5).on, 15) := by rw [nx5 (s := s.on.to 5) rfl, if_neg c4]
                exact .inr (.inr ⟨rfl, Stop.cons hn (by decide) (Stop.one hn2)⟩)
          · rw [text_other c1 c2 c3]
            have hn : nextC s.on b = (s.on.keep b, 4) := by rw [nx4 h4]; unfold quotedC; rw [if_neg c1, if_neg c3, if_pos c2]
            rcases ih v (by omega) (x ++ [b]) (p + 1) ((s.on.keep b).to 4) W rfl hW (by show s.word ++ [b] = _; rw [hx]) (by show s.taken + 1 = _; omega) with ⟨a, r, z, rfl, e1, e2, e3, e4, e5, e6, e7⟩ | ⟨e1, e2⟩ | ⟨e1, e2⟩
            · exact .inl ⟨b :: a, r, z, rfl, by rw [e1]; simp only [List.length_cons]; omega, by simp, Run.cons hn (by decide) e3, e4, e5, e6, by rw [e7]; simp only [List.length_cons]; omega⟩
            · exact .inr (.inl ⟨e1, Live.cons hn (by decide) e2⟩)
            · exact .inr (.inr ⟨e1, Stop.cons hn (by decide) e2⟩)
/-- A list. -/
theorem scan_run : ∀ (v : List UInt8) (st : Bool) (n k : Nat) (s : Cs), ((st = true ∧ n = 0 ∧ s.st = 6) ∨ (st = false ∧ n = 0 ∧ s.st = 7) ∨ (0 < n ∧ s.st = 8 ∧ s.run = n)) → n ≤ 60 →
    (∃ a r z, v = a ++ r ∧ scanL st n k v = (k : Int) + a.length ∧ 0 < a.length ∧ Run s a z ∧ z.st = 2 ∧ z.words = s.words ∧ z.word = s.word ++ a ∧ z.taken = s.taken + a.length) ∨ (scanL st n k v = 0 ∧ Live s v) ∨ (scanL st n k v = -1 ∧ Stop s v) := by
  intro v
  induction v with
  | nil =>
    intro st n k s hs _
    refine .inr (.inl ⟨rfl, Live.nil ?_⟩)
    rcases hs with h | h | h <;> omega
  | cons b v ih =>
    intro st n k s hs hn60
    rw [scanL]
    by_cases c1 : b = 41
    · subst c1
      rw [if_pos rfl]
      by_cases h2 : n = 0 ∧ st = false
      · rw [if_pos h2]
        have h7 : s.st = 7 := by rcases hs with h | h | h; exact absurd (h.1.symm.trans h2.2) (by decide); exact h.2.2; omega
        have hn : nextC s.on 41 = (s.on, 15) := by rw [nx7 h7, if_neg (by rw [plB_41]; decide)]
        exact .inr (.inr ⟨rfl, Stop.one hn⟩)
      · rw [if_neg h2]
        have hn : nextC s.on 41 = (s.on.keep 41, 2) := by
          rcases hs with ⟨rfl, rfl, h⟩ | ⟨rfl, rfl, h⟩ | ⟨hk, h, hr⟩
          · rw [nx6 h, if_pos rfl]
          · exact absurd ⟨rfl, rfl⟩ h2
          · rw [nx8 h]; unfold listC; rw [may_no plB_41, if_neg (by decide), if_neg (by decide), if_pos rfl]
        exact .inl ⟨[41], v, (s.on.keep 41).to 2, rfl, by simp, by simp, Run.one hn (by decide), rfl, rfl, rfl, by simp [Cs.to, Cs.keep, Cs.on]⟩
    · rw [if_neg c1]
      by_cases c2 : b = 32
      · rw [if_pos c2]
        by_cases h0 : n = 0
        · rw [if_pos h0]
          have hn : nextC s.on b = (s.on, 15) := by
            have hp : ¬ plB b = true := by rw [c2]; decide
            rcases hs with ⟨_, _, h⟩ | ⟨_, _, h⟩ | ⟨hk, _, _⟩
            · rw [nx6 h, if_neg c1, if_neg hp]
            · rw [nx7 h, if_neg hp]
            · omega
          exact .inr (.inr ⟨rfl, Stop.one hn⟩)
        · rw [if_neg h0]
          obtain ⟨h, hr⟩ : s.st = 8 ∧ s.run = n := by rcases hs with h | h | h; exact absurd h.2.1 h0; exact absurd h.2.1 h0; exact h.2
          have hn : nextC s.on b = (s.on.keep b, 7) := by rw [nx8 h]; unfold listC; rw [may_no (by rw [c2]; decide), if_neg (by decide), if_pos c2]
          rcases ih false 0 (k + 1) ((s.on.keep b).to 7) (.inr (.inl ⟨rfl, rfl, rfl⟩)) (by omega) with ⟨a, r, z, rfl, e1, e2, e3, e4, e5, e6, e7⟩ | ⟨e1, e2⟩ | ⟨e1, e2⟩
          · exact .inl ⟨b :: a, r, z, rfl, by rw [e1]; simp only [List.length_cons]; omega, by simp, Run.cons hn (by decide) e3, e4, e5, by rw [e6]; simp [Cs.to, Cs.keep, Cs.on], by rw [e7]; simp only [Cs.to, Cs.keep, Cs.on, List.length_cons]; omega⟩
          · exact .inr (.inl ⟨e1, Live.cons hn (by decide) e2⟩)
          · exact .inr (.inr ⟨e1, Stop.cons hn (by decide) e2⟩)
      · rw [if_neg c2]
        by_cases c3 : plB b = false ∨ n = 60
        · rw [if_pos c3]
          have hn : ∃ y, nextC s.on b = (y, 15) := by
            rcases hs with ⟨_, h0, h⟩ | ⟨_, h0, h⟩ | ⟨hk, h, hr⟩
            · have hp : plB b = false := c3.resolve_right (by omega)
              exact ⟨s.on, by rw [nx6 h, if_neg c1, if_neg (by rw [hp]; decide)]⟩
            · have hp : plB b = false := c3.resolve_right (by omega)
              exact ⟨s.on, by rw [nx7 h, if_neg (by rw [hp]; decide)]⟩
            · have hm : s.on.may b = false := by
                rcases c3 with c3 | c3
                · exact may_no c3
                · unfold Cs.may; rw [show (s.on.run == 60) = true from beq_iff_eq.2 (by show s.run = 60; omega)]; simp
              exact ⟨s.on, by rw [nx8 h]; unfold listC; rw [if_neg (by rw [hm]; decide), if_neg c2, if_neg c1]⟩
          obtain ⟨y, hn⟩ := hn
          exact .inr (.inr ⟨rfl, Stop.one hn⟩)
        · rw [if_neg c3]
          have hb : plB b = true := by cases h : plB b with
            | false => exact absurd (Or.inl h) c3
            | true => rfl
          have hk : n ≠ 60 := fun h => c3 (.inr h)
          obtain ⟨y, hn, hy1, hy2, hy3, hy4⟩ : ∃ y, nextC s.on b = (y, 8) ∧ y.run = (n : Int) + 1 ∧ y.words = s.words ∧ y.word = s.word ++ [b] ∧ y.taken = s.taken + 1 := by
            rcases hs with ⟨rfl, rfl, h⟩ | ⟨rfl, rfl, h⟩ | ⟨hk0, h, hr⟩
            · have hm : s.on.anew.may b = true := may_yes hb (show (0 : Int) ≠ 60 by decide)
              refine ⟨s.on.anew.more b, ?_, rfl, rfl, rfl, rfl⟩
              rw [nx6 h, if_neg c1, if_pos hb]; unfold listC; rw [if_pos hm, takes_yes hm]
            · have hm : s.on.anew.may b = true := may_yes hb (show (0 : Int) ≠ 60 by decide)
              refine ⟨s.on.anew.more b, ?_, rfl, rfl, rfl, rfl⟩
              rw [nx7 h, if_pos hb]; unfold listC; rw [if_pos hm, takes_yes hm]
            · have hm : s.on.may b = true := may_yes hb (by show s.run ≠ 60; omega)
              refine ⟨s.on.more b, ?_, by show s.run + 1 = _; omega, rfl, rfl, rfl⟩
              rw [nx8 h]; unfold listC; rw [if_pos hm, takes_yes hm]
          rcases ih false (n + 1) (k + 1) (y.to 8) (.inr (.inr ⟨by omega, rfl, by show y.run = _; rw [hy1]; omega⟩)) (by omega) with ⟨a, r, z, rfl, e1, e2, e3, e4, e5, e6, e7⟩ | ⟨e1, e2⟩ | ⟨e1, e2⟩
          · exact .inl ⟨b :: a, r, z, rfl, by rw [e1]; simp only [List.length_cons]; omega, by simp, Run.cons hn (by decide) e3, e4, e5.trans hy2, by rw [e6]; show y.word ++ a = _; rw [hy3]; simp, by rw [e7]; show y.taken + _ = _; rw [hy4]; simp only [List.length_cons]; omega⟩
          · exact .inr (.inl ⟨e1, Live.cons hn (by decide) e2⟩)
          · exact .inr (.inr ⟨e1, Stop.cons hn (by decide) e2⟩)
/-- A length ends here: its mark, behind at least one figure. -/
def EL (j : Nat) (v : List UInt8) : Prop := EndLit v ∨ (j ≠ 0 ∧ (v = [125] ∨ v = [125, 13]))
/-- What the figures of a length come to on both sides. -/
def FigIs (s : Cs) (j : Nat) (p : Int) (v : List UInt8) (r : Int × Int) : Prop :=
  (∃ a q, v = a ++ q ∧ r.2 = p + a.length ∧ 0 < a.length ∧ ((r.2 + r.1 + 2 ≤ 300 ∧ ∃ z, Run s a z ∧ z.st = 13 ∧ z.left = r.1 ∧ z.words = s.words ∧ z.word = s.word ∧ z.taken = s.taken + a.length) ∨ (300 < r.2 + r.1 + 2 ∧ Stop s v))) ∨
  (r = (0, 0) ∧ (Live s v ∨ (Stop s v ∧ EL j v))) ∨ (r = (0, -1) ∧ Stop s v)
theorem end_run {s : Cs} {j : Nat} {n p : Int} (b : UInt8) (v : List UInt8) (h10 : s.st = 10) (hj : j ≠ 0) (hl : s.left = n) (hp : s.taken = p) (hb : figOk b = false ∨ 3 ≤ s.run) : FigIs s j p (b :: v) (endS n p [125, 13, 10] (b :: v)) := by
  have hnf : ¬ (48 ≤ b.toNat ∧ b.toNat ≤ 57 ∧ s.on.run < 3) := by
    rintro ⟨h1, h2, h3⟩
    rcases hb with hb | hb
    · unfold figOk at hb; rw [decide_eq_true h1, decide_eq_true h2] at hb; cases hb
    · have : s.run < 3 := h3; omega
  rw [endS]
  by_cases c1 : b = 125
  · subst c1
    rw [if_pos rfl]
    by_cases hf : s.on.taken + 2 + s.on.left + 2 ≤ 300
    · have hf2 : p + 3 + n + 2 ≤ 300 := by have : s.taken + 1 + 2 + s.left + 2 ≤ 300 := hf; omega
      have hn : nextC s.on 125 = (s.on, 11) := by rw [nx10 h10]; unfold lengthC; rw [if_neg hnf, if_pos ⟨rfl, hf⟩]
      cases v with
      | nil => exact .inr (.inl ⟨rfl, .inl (Live.cons hn (by decide) (Live.nil (by show (11 : Int) ≤ 13; decide)))⟩)
      | cons c v =>
        rw [endS]
        by_cases c2 : c = 13
        · subst c2
          rw [if_pos rfl]
          have hn2 : nextC (s.on.to 11).on 13 = ((s.on.to 11).on, 12) := by rw [nx11 (s := s.on.to 11) rfl, if_pos rfl]
          cases v with
          | nil => exact .inr (.inl ⟨rfl, .inl (Live.cons hn (by decide) (Live.cons hn2 (by decide) (Live.nil (by show (12 : Int) ≤ 13; decide))))⟩)
          | cons d v =>
            rw [endS]
            by_cases c3 : d = 10
            · subst c3
              rw [if_pos rfl]
              have hn3 : nextC ((s.on.to 11).on.to 12).on 10 = (((s.on.to 11).on.to 12).on, 13) := by rw [nx12 (s := (s.on.to 11).on.to 12) rfl, if_pos rfl]
              refine .inl ⟨[125, 13, 10], v, rfl, rfl, by decide, .inl ⟨hf2, _, Run.cons hn (by decide) (Run.cons hn2 (by decide) (Run.one hn3 (by decide))), rfl, hl, rfl, rfl, ?_⟩⟩
              show s.taken + 1 + 1 + 1 = s.taken + 3; omega
            · rw [if_neg c3]
              have hn3 : nextC ((s.on.to 11).on.to 12).on d = (((s.on.to 11).on.to 12).on, 15) := by rw [nx12 (s := (s.on.to 11).on.to 12) rfl, if_neg c3]
              exact .inr (.inr ⟨rfl, Stop.cons hn (by decide) (Stop.cons hn2 (by decide) (Stop.one hn3))⟩)
        · rw [if_neg c2]
          have hn2 : nextC (s.on.to 11).on c = ((s.on.to 11).on, 15) := by rw [nx11 (s := s.on.to 11) rfl, if_neg c2]
          exact .inr (.inr ⟨rfl, Stop.cons hn (by decide) (Stop.one hn2)⟩)
    · have hf2 : 300 < p + 3 + n + 2 := by have : ¬ s.taken + 1 + 2 + s.left + 2 ≤ 300 := hf; omega
      have hn : nextC s.on 125 = (s.on, 15) := by rw [nx10 h10]; unfold lengthC; rw [if_neg hnf, if_neg (fun h => hf h.2)]
      have st : ∀ q, Stop s (125 :: q) := fun q => Stop.one hn
      cases v with
      | nil => exact .inr (.inl ⟨rfl, .inr ⟨st _, .inr ⟨hj, .inl rfl⟩⟩⟩)
      | cons c v =>
        rw [endS]
        by_cases c2 : c = 13
        · subst c2
          rw [if_pos rfl]
          cases v with
          | nil => exact .inr (.inl ⟨rfl, .inr ⟨st _, .inr ⟨hj, .inr rfl⟩⟩⟩)
          | cons d v =>
            rw [endS]
            by_cases c3 : d = 10
            · subst c3
              rw [if_pos rfl]
              exact .inl ⟨[125, 13, 10], v, rfl, rfl, by decide, .inr ⟨hf2, st _⟩⟩
            · rw [if_neg c3]; exact .inr (.inr ⟨rfl, st _⟩)
        · rw [if_neg c2]; exact .inr (.inr ⟨rfl, st _⟩)
  · rw [if_neg c1]
    have hn : nextC s.on b = (s.on, 15) := by rw [nx10 h10]; unfold lengthC; rw [if_neg hnf, if_neg (fun h => c1 h.1)]
    exact .inr (.inr ⟨rfl, Stop.one hn⟩)
theorem FigIs.cons {s y : Cs} {j : Nat} {p n : Int} {b : UInt8} {v : List UInt8} {r : Int × Int} (hn : nextC s.on b = (y, n)) (h13 : n ≤ 13) (hf : figOk b = true) (hw : y.words = s.words) (hwd : y.word = s.word) (ht : y.taken = s.taken + 1) (h : FigIs (y.to n) (j + 1) (p + 1) v r) : FigIs s j p (b :: v) r := by
  rcases h with ⟨a, q, rfl, h1, h2, h3⟩ | ⟨h1, h2⟩ | ⟨h1, h2⟩
  · refine .inl ⟨b :: a, q, rfl, by rw [h1]; simp only [List.length_cons]; omega, by simp, ?_⟩
    rcases h3 with ⟨h3, z, h4, h5, h6, h7, h8, h9⟩ | ⟨h3, h4⟩
    · refine .inl ⟨h3, z, Run.cons hn h13 h4, h5, h6, h7.trans hw, h8.trans hwd, ?_⟩
      rw [h9]; show y.taken + _ = _; rw [ht]; simp only [List.length_cons]; omega
    · exact .inr ⟨h3, Stop.cons hn h13 h4⟩
  · refine .inr (.inl ⟨h1, ?_⟩)
    rcases h2 with h2 | ⟨h2, h3⟩
    · exact .inl (Live.cons hn h13 h2)
    · refine .inr ⟨Stop.cons hn h13 h2, .inl ?_⟩
      rcases h3 with h3 | ⟨_, rfl | rfl⟩
      · exact EndLit.app [b] h3
      · exact ⟨[], b, hf, .inl rfl⟩
      · exact ⟨[], b, hf, .inr rfl⟩
  · exact .inr (.inr ⟨h1, Stop.cons hn h13 h2⟩)
theorem figs_is : ∀ (k j : Nat) (n p : Int) (v : List UInt8) (s : Cs), k + j = 3 → s.st = (if j = 0 then 9 else 10) → s.run = j → s.left = n → s.taken = p → FigIs s j p v (figsS k j n p v) := by
  intro k
  induction k with
  | zero =>
    intro j n p v s hkj hst hr hl hp
    have hj : j = 3 := by omega
    subst hj
    cases v with
    | nil => rw [figs_nil]; exact .inr (.inl ⟨rfl, .inl (Live.nil (by rw [hst]; decide))⟩)
    | cons b v => rw [figs_off (.inr rfl) (by decide)]; exact end_run b v hst (by decide) hl hp (.inr (by rw [hr]; decide))
  | succ k ih =>
    intro j n p v s hkj hst hr hl hp
    cases v with
    | nil => rw [figs_nil]; exact .inr (.inl ⟨rfl, .inl (Live.nil (by rw [hst]; split <;> decide))⟩)
    | cons b v =>
      cases hf : figOk b with
      | true =>
        rw [figs_on hf]
        have hf' := hf
        unfold figOk at hf'
        simp only [Bool.and_eq_true, decide_eq_true_eq] at hf'
        have hlen : lengthC s.on b = (s.on.fig b, 10) := if_pos ⟨hf'.1, hf'.2, by show s.run < 3; omega⟩
        have hn : nextC s.on b = (s.on.fig b, 10) := by
          by_cases h0 : j = 0
          · rw [if_pos h0] at hst
            rw [nx9 hst, if_neg (by rintro rfl; revert hf; decide), hlen]
          · rw [if_neg h0] at hst
            rw [nx10 hst, hlen]
        refine FigIs.cons hn (by decide) hf rfl rfl rfl (ih (j + 1) (10 * n + (b.toNat : Int) - 48) (p + 1) v ((s.on.fig b).to 10) (by omega) (by rw [if_neg (by omega)]; rfl) ?_ ?_ ?_)
        · show s.run + 1 = _; omega
        · show s.left * 10 + ((b.toNat : Int) - 48) = _; omega
        · show s.taken + 1 = _; omega
      | false =>
        by_cases h0 : j = 0
        · subst h0
          rw [figs_none hf]
          rw [if_pos rfl] at hst
          have hn : nextC s.on b = (s.on, 15) := by
            rw [nx9 hst]
            by_cases h1 : b = 125
            · rw [if_pos h1]
            · rw [if_neg h1]; unfold lengthC
              rw [if_neg (fun h => by unfold figOk at hf; rw [decide_eq_true h.1, decide_eq_true h.2.1] at hf; cases hf), if_neg (fun h => h1 h.1)]
          exact .inr (.inr ⟨rfl, Stop.one hn⟩)
        · rw [figs_off (.inl hf) h0]
          rw [if_neg h0] at hst
          exact end_run b v hst h0 hl hp (.inl hf)
theorem lit_part : ∀ (l : List UInt8) (s : Cs), s.st = 13 → (l.length : Int) ≤ s.left → ∃ z, Run s l z ∧ z.st = 13 ∧ z.left = s.left - l.length ∧ z.words = s.words ∧ z.word = s.word ++ l ∧ z.taken = s.taken + l.length := by
  intro l
  induction l with
  | nil => intro s h1 h2; exact ⟨s, rfl, h1, by simp, rfl, by simp, by simp⟩
  | cons c l ih =>
    intro s h1 h2
    rw [List.length_cons] at h2
    have hn : nextC s.on c = (s.on.less.keep c, 13) := by rw [nx13 h1, if_neg (by omega)]
    obtain ⟨z, h3, h4, h5, h6, h7, h8⟩ := ih ((s.on.less.keep c).to 13) rfl (by show (l.length : Int) ≤ s.left - 1; omega)
    refine ⟨z, Run.cons hn (by decide) h3, h4, ?_, h6, ?_, ?_⟩
    · rw [h5]; show s.left - 1 - _ = _; simp only [List.length_cons]; omega
    · rw [h7]; simp [Cs.to, Cs.keep, Cs.less, Cs.on]
    · rw [h8]; simp only [Cs.to, Cs.keep, Cs.less, Cs.on, List.length_cons]; omega
/-- As it is: with the count. -/
theorem plain_go2 : ∀ (l : List UInt8) (s : Cs), l.all plB = true → s.st = 1 → s.run + l.length ≤ 60 → ∃ z, Run s l z ∧ z.st = 1 ∧ z.words = s.words ∧ z.word = s.word ++ l ∧ z.taken = s.taken + l.length ∧ z.run = s.run + l.length := by
  intro l
  induction l with
  | nil => intro s _ h1 _; exact ⟨s, rfl, h1, rfl, by simp, by simp, by simp⟩
  | cons c l ih =>
    intro s ha h1 hr
    rw [List.all_cons, Bool.and_eq_true] at ha
    rw [List.length_cons] at hr
    have hm : s.may c = true := may_yes ha.1 (by omega)
    have hn : nextC s.on c = (s.on.more c, 1) := by rw [nx1 h1, if_pos hm, takes_yes (show s.on.may c = true from hm)]
    obtain ⟨z, h2, h3, h4, h5, h6, h7⟩ := ih ((s.on.more c).to 1) ha.2 rfl (by show s.run + 1 + _ ≤ 60; omega)
    refine ⟨z, Run.cons hn (by decide) h2, h3, h4, ?_, ?_, ?_⟩
    · rw [h5]; simp [Cs.to, Cs.more, Cs.on]
    · rw [h6]; simp only [Cs.to, Cs.more, Cs.on, List.length_cons]; omega
    · rw [h7]; simp only [Cs.to, Cs.more, Cs.on, List.length_cons]; omega
theorem span_all : ∀ (u : List UInt8) (k : Nat), k ≤ spanS u → (u.take k).all plB = true := by
  intro u
  induction u with
  | nil => intro k _; simp
  | cons b v ih =>
    intro k h
    cases k with
    | zero => simp
    | succ k =>
      cases hb : plB b with
      | false => rw [span_off hb] at h; omega
      | true => rw [span_on hb] at h; rw [List.take_succ_cons, List.all_cons, hb, ih k (by omega)]; rfl
theorem span_next (u : List UInt8) {c : UInt8} {q : List UInt8} (h : u.drop (spanS u) = c :: q) : plB c = false := by
  have := span_at u (spanS u) (Nat.le_refl _)
  rw [h] at this
  cases hc : plB c with
  | false => rfl
  | true => rw [span_on hc] at this; omega
end Go.Proofs.YtjaohlnejkgkaaaGreatDoor.Plain
namespace Go.Proofs.YtjaohlnejkgkaaaGreatDoor.Plain
set_option linter.unusedVariables false

theorem take_drop_app (u : List UInt8) (k : Nat) : u = u.take k ++ u.drop k := (List.take_append_drop k u).symm
theorem word_is {s : Cs} {W : List (List UInt8)} (p : Nat) (u : List UInt8) (hs : AtWord W p s) : WordIs s W p u (nextW p u).1 (nextW p u).2 := by
  obtain ⟨h0, hW, hp⟩ := hs
  cases u with
  | nil => exact .inr (.inl ⟨rfl, .inl (Live.nil (by omega))⟩)
  | cons b v =>
    by_cases c1 : b = 123
    · subst c1
      have hn : nextC s.on 123 = (s.on.fresh, 9) := by rw [nx0 h0]; unfold beginC; rw [if_neg (by decide), if_neg (by decide), if_pos rfl]
      have hF := figs_is 3 0 0 ((p : Int) + 1) v (s.on.fresh.to 9) rfl rfl rfl rfl (by show s.taken + 1 = _; rw [hp])
      obtain ⟨⟨fn, fx⟩, hr⟩ : ∃ r, figsS 3 0 0 ((p : Int) + 1) v = r := ⟨_, rfl⟩
      have hB := figs_b3 ((p : Int) + 1) v
      rw [hr] at hF hB
      rcases hF with ⟨a, q, rfl, e1, e2, e3⟩ | ⟨e1, e2⟩ | ⟨e1, e2⟩
      · dsimp only at e1 e3
        have hfx : ¬ fx ≤ 0 := by omega
        have hfn : 0 ≤ fn := by
          rcases hB with ⟨_, _, h, _⟩ | h | h
          · exact h
          · cases h; omega
          · cases h; omega
        rcases e3 with ⟨f1, z, f2, f3, f4, f5, f6, f7⟩ | ⟨f1, f2⟩
        · have hlen : (p : Int) + ((a ++ q).length + 1) - fx = q.length := by rw [e1]; simp only [List.length_append]; omega
          by_cases f8 : (q.length : Int) < fn
          · rw [next_lit_2 hr hfx (by omega) (by show (p : Int) + _ - fx < fn; rw [hlen]; exact f8)]
            obtain ⟨y, g1, g2, _⟩ := lit_part q z f3 (by rw [f4]; omega)
            exact .inr (.inl ⟨rfl, .inl (Live.cons hn (by decide) (Live.app f2 ⟨y, g1, by rw [g2]; decide⟩))⟩)
          · rw [next_lit_3 hr hfx (by omega) (by show ¬ (p : Int) + _ - fx < fn; rw [hlen]; exact f8)]
            have hk : (q.take fn.toNat).length = fn.toNat := by rw [List.length_take]; omega
            obtain ⟨y, g1, g2, g3, g4, g5, g6⟩ := lit_part (q.take fn.toNat) z f3 (by rw [f4, hk]; omega)
            have hx : (((123 : UInt8) :: (a ++ q)).drop (fx - p).toNat).take fn.toNat = q.take fn.toNat := by
              rw [show (fx - (p : Int)).toNat = a.length + 1 by omega, List.drop_succ_cons, List.drop_left]
            dsimp only
            rw [hx]
            refine .inl ⟨by omega, 123 :: (a ++ q.take fn.toNat), q.drop fn.toNat, by simp, by simp only [List.length_cons, List.length_append, hk]; omega, y, Run.cons hn (by decide) (Run.append _ f2 g1), ⟨.inr (.inr ⟨g2, by rw [g3, f4, hk]; omega⟩), ?_, ?_, ?_⟩, fun h => ?_⟩
            · rw [g4, f5]; exact hW
            · rw [g5, f6]; show [] ++ _ = _; rfl
            · rw [g6, f7, hk]; show s.taken + 1 + _ + _ = _; omega
            · rw [g2] at h; exact absurd h (by decide)
        · rw [next_lit_1 hr hfx f1]
          exact .inr (.inr ⟨rfl, Stop.cons hn (by decide) f2⟩)
      · cases e1
        rw [next_lit_0 hr (Int.le_refl _)]
        refine .inr (.inl ⟨rfl, ?_⟩)
        rcases e2 with e2 | ⟨e2, e3⟩
        · exact .inl (Live.cons hn (by decide) e2)
        · rcases e3 with e3 | ⟨e3, _⟩
          · exact .inr ⟨Stop.cons hn (by decide) e2, EndLit.app [123] e3⟩
          · exact absurd rfl e3
      · cases e1
        rw [next_lit_0 hr (by decide)]
        exact .inr (.inr ⟨rfl, Stop.cons hn (by decide) e2⟩)
    · by_cases c2 : b = 34
      · subst c2
        have hn : nextC s.on 34 = (s.on.fresh, 4) := by rw [nx0 h0]; unfold beginC; rw [if_pos rfl]
        rw [next_text]
        rcases text_is v.length v (Nat.le_refl _) [] ((p : Int) + 1) (s.on.fresh.to 4) W rfl hW rfl (by show s.taken + 1 = _; rw [hp]) with ⟨a, r, z, rfl, e1, e2, e3, e4, e5, e6, e7⟩ | ⟨e1, e2⟩ | ⟨e1, e2⟩
        · refine .inl ⟨by rw [e1]; omega, 34 :: a, r, rfl, by rw [e1]; simp only [List.length_cons]; omega, z, Run.cons hn (by decide) e3, ⟨.inr (.inl e4), e5, e6, by rw [e7, e1]⟩, fun h => ?_⟩
          rw [e4] at h; exact absurd h (by decide)
        · rw [e1]; exact .inr (.inl ⟨rfl, .inl (Live.cons hn (by decide) e2)⟩)
        · rw [e1]; exact .inr (.inr ⟨rfl, Stop.cons hn (by decide) e2⟩)
      · by_cases c3 : b = 40
        · subst c3
          have hn : nextC s.on 40 = (s.on.fresh.keep 40, 6) := by rw [nx0 h0]; unfold beginC; rw [if_neg (by decide), if_pos rfl]
          have hS := scan_run v true 0 (p + 1) ((s.on.fresh.keep 40).to 6) (.inl ⟨rfl, rfl, rfl⟩) (by decide)
          obtain ⟨fx, hr⟩ : ∃ r, scanL true 0 (p + 1) v = r := ⟨_, rfl⟩
          rw [hr] at hS
          rcases hS with ⟨a, r, z, rfl, e1, e2, e3, e4, e5, e6, e7⟩ | ⟨e1, e2⟩ | ⟨e1, e2⟩
          · rw [next_list_1 hr (by omega)]
            have hx : ((40 : UInt8) :: (a ++ r)).take (fx - p).toNat = 40 :: a := by
              rw [show (fx - (p : Int)).toNat = a.length + 1 by omega, List.take_succ_cons, List.take_left]
            dsimp only
            rw [hx]
            refine .inl ⟨by omega, 40 :: a, r, rfl, by simp only [List.length_cons]; omega, z, Run.cons hn (by decide) e3, ⟨.inr (.inl e4), e5.trans hW, by rw [e6]; rfl, ?_⟩, fun h => ?_⟩
            · rw [e7]; show s.taken + 1 + _ = _; omega
            · rw [e4] at h; exact absurd h (by decide)
          · subst e1; rw [next_list_0 hr (Int.le_refl _)]; exact .inr (.inl ⟨rfl, .inl (Live.cons hn (by decide) e2)⟩)
          · subst e1; rw [next_list_0 hr (by decide)]; exact .inr (.inr ⟨rfl, Stop.cons hn (by decide) e2⟩)
        · rw [next_plain c1 c2 c3]
          cases hb : plB b with
          | false =>
            rw [if_pos (.inl (span_off hb))]
            have hm : s.on.fresh.may b = false := may_no hb
            have hn : nextC s.on b = (s.on.fresh, 15) := by rw [nx0 h0]; unfold beginC; rw [if_neg c2, if_neg c3, if_neg c1, if_neg (by rw [hm]; decide)]
            exact .inr (.inr ⟨rfl, Stop.one hn⟩)
          | true =>
            have hm : s.on.fresh.may b = true := may_yes hb (show (0 : Int) ≠ 60 by decide)
            have hn : nextC s.on b = (s.on.fresh.more b, 1) := by rw [nx0 h0]; unfold beginC; rw [if_neg c2, if_neg c3, if_neg c1, if_pos hm, takes_yes hm]
            have hsp : spanS (b :: v) = spanS v + 1 := span_on hb
            by_cases h60 : 60 < spanS (b :: v)
            · rw [if_pos (.inr h60)]
              have hl : 60 ≤ spanS v := by omega
              have hvl := span_le v
              have hk : (v.take 59).length = 59 := by rw [List.length_take]; omega
              obtain ⟨z, e1, e2, e3, e4, e5, e6⟩ := plain_go2 (v.take 59) ((s.on.fresh.more b).to 1) (span_all v 59 (by omega)) rfl (by rw [hk]; show (0 : Int) + 1 + ((59 : Nat) : Int) ≤ 60; decide)
              have hd : v.drop 59 = v[59] :: v.drop 60 := List.drop_eq_getElem_cons (by omega)
              have hp59 : plB v[59] = true := by
                have := span_at v 59 (by omega)
                rw [hd] at this
                cases h : plB v[59] with
                | true => rfl
                | false => rw [span_off h] at this; omega
              obtain ⟨_, _, _, _, q5⟩ := plain_sign hp59
              have q6 : v[59] ≠ 13 := by intro h; rw [h] at hp59; revert hp59; decide
              have hr60 : z.run = 60 := by rw [e6, hk]; show (0 : Int) + 1 + ((59 : Nat) : Int) = 60; decide
              have hm2 : z.may v[59] = false := by unfold Cs.may; rw [show (z.run == 60) = true from beq_iff_eq.2 hr60]; simp
              have hn2 : nextC z.on v[59] = (z.on.shut, 15) := by
                rw [nx1 e2, if_neg (by rw [hm2]; decide)]; unfold endC; rw [if_neg (fun h => q5 h.1), if_neg q6]
              refine .inr (.inr ⟨rfl, Stop.cons hn (by decide) ?_⟩)
              rw [take_drop_app v 59, hd]
              exact Stop.app e1 (Stop.one hn2)
            · rw [if_neg (fun h => h.elim (fun h => by omega) h60)]
              have hvl := span_le v
              have hk : (v.take (spanS v)).length = spanS v := by rw [List.length_take]; omega
              obtain ⟨z, e1, e2, e3, e4, e5, e6⟩ := plain_go2 (v.take (spanS v)) ((s.on.fresh.more b).to 1) (span_all v _ (Nat.le_refl _)) rfl (by rw [hk]; show (0 : Int) + 1 + _ ≤ 60; omega)
              have hx : (b :: v).take (spanS (b :: v)) = b :: v.take (spanS v) := by rw [hsp, List.take_succ_cons]
              dsimp only
              rw [hx]
              refine .inl ⟨by omega, b :: v.take (spanS v), v.drop (spanS v), by rw [List.cons_append, ← take_drop_app], by simp only [List.length_cons, hk]; omega, z, Run.cons hn (by decide) e1, ⟨.inl e2, e3.trans hW, by rw [e4]; rfl, ?_⟩, fun _ c q h => ?_⟩
              · rw [e5, hk]; show s.taken + 1 + _ = _; omega
              · exact span_next v h
/-- At the end of a word. -/
theorem endable_next {W : List (List UInt8)} {x : List UInt8} {n : Int} {z : Cs} {c : UInt8} {q : List UInt8} (h : EndAble W x n z) (hp : z.st = 1 → plB c = false) : nextC z.on c = endC z.on c := by
  obtain ⟨h1, _, _, _⟩ := h
  rcases h1 with h1 | h1 | ⟨h1, hz⟩
  · rw [nx1 h1, may_no (hp h1), if_neg (by decide)]
  · rw [nx2 h1]
  · rw [nx13 h1, if_pos hz]
/-- What reading words comes to on both sides. -/
def ReadIs (s : Cs) (p : Int) (u : List UInt8) (r : List (List UInt8) × Int) : Prop :=
  (0 < r.2 ∧ ∃ v c q z, u = v ++ c :: q ∧ Run s v z ∧ r.2 = p + v.length + 1 ∧ (stepC z c).st = 14 ∧ (stepC z c).words = r.1 ∧ (stepC z c).taken = r.2) ∨
  (r.2 = 0 ∧ (Live s u ∨ (Stop s u ∧ EndLit u))) ∨ (r.2 = -1 ∧ Stop s u)
theorem read_is : ∀ (f p : Nat) (out : List (List UInt8)) (u : List UInt8) (s : Cs), AtWord out p s → out.length + f = 12 → 0 < f → ReadIs s p u (readW f p out u) := by
  intro f
  induction f with
  | zero => intro p out u s _ _ h; omega
  | succ f ih =>
    intro p out u s hs hf _
    obtain ⟨⟨x, n⟩, hr⟩ : ∃ r, nextW p u = r := ⟨_, rfl⟩
    have hw := word_is p u hs
    rw [hr] at hw
    rcases hw with ⟨h1, v, r, rfl, h2, z, h3, h4, h5⟩ | ⟨h1, h2⟩ | ⟨h1, h2⟩
    · dsimp only at h1 h2 h4
      have hn0 : ¬ n ≤ 0 := by omega
      have hd : (v ++ r).drop (n - p).toNat = r := by rw [show (n - (p : Int)).toNat = v.length by omega, List.drop_left]
      rw [read_on hr hn0, hd]
      have hend : z.words.length + 1 = out.length + 1 := by rw [h4.2.1]
      cases r with
      | nil => exact .inr (.inl ⟨rfl, .inl ⟨z, by rw [List.append_nil]; exact h3, by rcases h4.1 with h | h | ⟨h, _⟩ <;> omega⟩⟩)
      | cons c q =>
        have hnx := endable_next (c := c) (q := q) h4 (fun h => h5 h c q rfl)
        have hsw : z.on.shut.words = out ++ [x] := by show z.words ++ [z.word] = _; rw [h4.2.1, h4.2.2.1]
        have hst : z.on.shut.taken = n + 1 := by show z.taken + 1 = _; rw [h4.2.2.2]
        dsimp only
        by_cases c1 : c = 13
        · rw [if_pos c1]
          subst c1
          have hn : nextC z.on 13 = (z.on.shut, 3) := by rw [hnx]; unfold endC; rw [if_neg (fun h => by have := h.1; revert this; decide), if_pos rfl]
          cases q with
          | nil => exact .inr (.inl ⟨rfl, .inl (Live.app h3 (Live.cons hn (by decide) (Live.nil (by show (3 : Int) ≤ 13; decide))))⟩)
          | cons d q =>
            dsimp only
            have hn2 : nextC (z.on.shut.to 3).on d = ((z.on.shut.to 3).on, if d = 10 then 14 else 15) := nx3 rfl
            by_cases c2 : d = 10
            · rw [if_pos c2] at hn2 ⊢
              have hstep : stepC (z.on.shut.to 3) d = (z.on.shut.to 3).on.to 14 := by show (nextC _ d).1.to (nextC _ d).2 = _; rw [hn2]
              refine .inl ⟨by show 0 < n + 2; omega, v ++ [13], d, q, z.on.shut.to 3, by simp, Run.append _ h3 (Run.one hn (by decide)), by show n + 2 = _; simp only [List.length_append, List.length_cons, List.length_nil]; omega, ?_, ?_, ?_⟩
              · rw [hstep]; rfl
              · rw [hstep]; exact hsw
              · rw [hstep]; show z.on.shut.taken + 1 = n + 2; rw [hst]; omega
            · rw [if_neg c2] at hn2 ⊢
              exact .inr (.inr ⟨rfl, Stop.app h3 (Stop.cons hn (by decide) (Stop.one hn2))⟩)
        · rw [if_neg c1]
          by_cases c2 : c ≠ 32 ∨ out.length + 1 = 12
          · rw [if_pos c2]
            have hn : nextC z.on c = (z.on.shut, 15) := by
              rw [hnx]; unfold endC
              rw [if_neg (fun h => by
                rcases c2 with c2 | c2
                · exact c2 h.1
                · have := h.2; rw [hsw] at this; simp at this; omega), if_neg c1]
            exact .inr (.inr ⟨rfl, Stop.app h3 (Stop.one hn)⟩)
          · rw [if_neg c2]
            have c3 : c = 32 := by by_cases h : c = 32; exact h; exact absurd (Or.inl h) c2
            have c4 : out.length + 1 ≠ 12 := fun h => c2 (.inr h)
            have hn : nextC z.on c = (z.on.shut, 0) := by
              rw [hnx]; unfold endC; rw [if_pos ⟨c3, by rw [hsw]; simp; omega⟩]
            have hrun : Run s (v ++ [c]) (z.on.shut.to 0) := Run.append _ h3 (Run.one hn (by decide))
            have hpn : ((n.toNat + 1 : Nat) : Int) = n + 1 := by omega
            have hat : AtWord (out ++ [x]) ((n.toNat + 1 : Nat) : Int) (z.on.shut.to 0) := ⟨rfl, hsw, by rw [hpn]; exact hst⟩
            rcases ih (n.toNat + 1) (out ++ [x]) q (z.on.shut.to 0) hat (by simp; omega) (by omega) with ⟨g1, a, d, r, y, rfl, g2, g3, g4, g5, g6⟩ | ⟨g1, g2⟩ | ⟨g1, g2⟩
            · refine .inl ⟨g1, v ++ c :: a, d, r, y, by simp, ?_, by rw [g3, hpn]; simp only [List.length_append, List.length_cons]; omega, g4, g5, g6⟩
              rw [show v ++ c :: a = (v ++ [c]) ++ a by simp]
              exact Run.append _ hrun g2
            · refine .inr (.inl ⟨g1, ?_⟩)
              rcases g2 with g2 | ⟨g2, g3⟩
              · refine .inl ?_
                rw [show v ++ c :: q = (v ++ [c]) ++ q by simp]; exact Live.app hrun g2
              · refine .inr ⟨?_, ?_⟩
                · rw [show v ++ c :: q = (v ++ [c]) ++ q by simp]; exact Stop.app hrun g2
                · rw [show v ++ c :: q = (v ++ [c]) ++ q by simp]; exact EndLit.app _ g3
            · refine .inr (.inr ⟨g1, ?_⟩)
              rw [show v ++ c :: q = (v ++ [c]) ++ q by simp]; exact Stop.app hrun g2
    · dsimp only at h1
      subst h1
      rw [read_0 hr (Int.le_refl _)]
      exact .inr (.inl ⟨rfl, h2⟩)
    · dsimp only at h1
      subst h1
      rw [read_0 hr (by decide)]
      exact .inr (.inr ⟨rfl, h2⟩)
/-- A run that is cut: it is so far, or all. -/
theorem run_cut {v : List UInt8} {s z : Cs} (h : Run s v z) (k : Nat) (hs : s.st ≤ 13) : ∃ y, Run s (v.take k) y ∧ y.st ≤ 13 := by
  obtain ⟨y, h1, h2⟩ := Run.take v k h
  exact ⟨y, h1, by rcases h2 with h2 | rfl; exact h2; exact hs⟩
theorem runC_of {s z : Cs} {v : List UInt8} (h : Run s v z) : runC s v = z := by
  have := Run.runC v [] h
  rw [List.append_nil] at this
  rw [this]; rfl
/-- The program's answer where the reader stops within the first 300 bytes, or behind them. -/
theorem rdV_stop {t : List UInt8} (h : Stop csNil t) : rdV t = ([], 0, 2) := by
  obtain ⟨v, c, r, z, rfl, h1, h2⟩ := h
  by_cases hl : v.length < 300
  · have ht : (v ++ c :: r).take 300 = v ++ c :: r.take (300 - v.length - 1) := by
      rw [List.take_append, List.take_of_length_le (by omega), show 300 - v.length = (300 - v.length - 1) + 1 by omega, List.take_succ_cons]
      simp
    refine rdV_bad (s := stepC z c) ?_ h2
    rw [ht, Run.runC v _ h1, runC_cons, stops_15 h2]; rfl
  · obtain ⟨y, h3, h4⟩ := run_cut h1 300 (by decide)
    have ht : (v ++ c :: r).take 300 = v.take 300 := List.take_append_of_le_length (by omega)
    exact rdV_long (by rw [ht]; exact runC_of h3) h4 (by simp only [List.length_append, List.length_cons]; omega)
theorem rdV_live {t : List UInt8} (h : Live csNil t) : rdV t = if t.length < 300 then ([], 0, 1) else ([], 0, 2) := by
  obtain ⟨z, h1, h2⟩ := h
  obtain ⟨y, h3, h4⟩ := run_cut h1 300 (by decide)
  split
  · rename_i hl; exact rdV_more (runC_of h3) h4 (by omega)
  · rename_i hl; exact rdV_long (runC_of h3) h4 (by omega)
theorem rdV_done {t v q : List UInt8} {c : UInt8} {z : Cs} (ht : t = v ++ c :: q) (h1 : Run csNil v z) (h2 : (stepC z c).st = 14) : rdV t = if v.length < 300 then ((stepC z c).words, (stepC z c).taken, 0) else ([], 0, 2) := by
  subst ht
  split
  · rename_i hl
    have ht : (v ++ c :: q).take 300 = v ++ c :: q.take (300 - v.length - 1) := by
      rw [List.take_append, List.take_of_length_le (by omega), show 300 - v.length = (300 - v.length - 1) + 1 by omega, List.take_succ_cons]
      simp
    refine rdV_all (s := stepC z c) ?_ h2
    rw [ht, Run.runC v _ h1, runC_cons, stops_14 h2]; rfl
  · obtain ⟨y, h3, h4⟩ := run_cut h1 300 (by decide)
    have ht : (v ++ c :: q).take 300 = v.take 300 := List.take_append_of_le_length (by omega)
    exact rdV_long (by rw [ht]; exact runC_of h3) h4 (by simp only [List.length_append, List.length_cons]; omega)
/-- Both readers answer the same, but where a length that can't fit stands at the very end. -/
theorem readers (t : List UInt8) : spV t = rdV t ∨ (rdV t = ([], 0, 2) ∧ spV t = ([], 0, 1) ∧ EndLit t) := by
  have hR := read_is 12 0 [] t csNil ⟨rfl, rfl, rfl⟩ rfl (by decide)
  have hV : spV t = if 0 < (readW 12 0 [] t).2 ∧ (readW 12 0 [] t).2 ≤ 300 then ((readW 12 0 [] t).1, (readW 12 0 [] t).2, 0) else if (readW 12 0 [] t).2 = 0 ∧ t.length < 300 then ([], 0, 1) else ([], 0, 2) := rfl
  generalize readW 12 0 [] t = R at *
  obtain ⟨ws, n⟩ := R
  rcases hR with ⟨h1, v, c, q, z, h2, h3, h4, h5, h6, h7⟩ | ⟨h1, h2⟩ | ⟨h1, h2⟩
  · dsimp only at *
    refine .inl ?_
    rw [hV, rdV_done h2 h3 h5, h6, h7]
    by_cases hl : v.length < 300
    · rw [if_pos hl, if_pos ⟨h1, by omega⟩]
    · rw [if_neg hl, if_neg (fun h => by have := h.2; omega), if_neg (fun h => by have := h.1; omega)]
  · dsimp only at *
    subst h1
    rw [if_neg (fun h => by have := h.1; omega)] at hV
    rcases h2 with h2 | ⟨h2, h3⟩
    · refine .inl ?_
      rw [hV, rdV_live h2]
      by_cases hl : t.length < 300
      · rw [if_pos ⟨rfl, hl⟩, if_pos hl]
      · rw [if_neg (fun h => hl h.2), if_neg hl]
    · by_cases hl : t.length < 300
      · rw [if_pos ⟨rfl, hl⟩] at hV
        exact .inr ⟨rdV_stop h2, hV, h3⟩
      · refine .inl ?_
        rw [hV, rdV_stop h2, if_neg (fun h => hl h.2)]
  · dsimp only at *
    subst h1
    refine .inl ?_
    rw [hV, rdV_stop h2, if_neg (fun h => by have := h.1; omega), if_neg (fun h => by have := h.1; omega)]
end Go.Proofs.YtjaohlnejkgkaaaGreatDoor.Plain
