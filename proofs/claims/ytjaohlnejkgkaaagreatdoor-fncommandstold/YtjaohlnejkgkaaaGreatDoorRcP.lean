/- Commands: RcPlain, RcRun, RcBack in one text. -/
import Derived.Test.YtjaohlnejkgkaaaGreatDoorCmPlain
import Derived.Test.YtjaohlnejkgkaaaGreatDoorCmList
namespace Go.Proofs.YtjaohlnejkgkaaaGreatDoor.Plain
set_option linter.unusedVariables false

structure Cs where
  st : Int
  taken : Int
  words : List (List UInt8)
  word : List UInt8
  run : Int
  left : Int
def Cs.keep (s : Cs) (c : UInt8) : Cs := { s with word := s.word ++ [c] }
def Cs.may (s : Cs) (c : UInt8) : Bool := plB c && !(s.run == 60)
def Cs.more (s : Cs) (c : UInt8) : Cs := { s with run := s.run + 1, word := s.word ++ [c] }
def Cs.takes (s : Cs) (c : UInt8) : Cs := if s.may c then s.more c else s
def Cs.fresh (s : Cs) : Cs := { s with word := [], run := 0, left := 0 }
def Cs.shut (s : Cs) : Cs := { s with words := s.words ++ [s.word] }
def Cs.anew (s : Cs) : Cs := { s with run := 0 }
def Cs.fig (s : Cs) (c : UInt8) : Cs := { s with run := s.run + 1, left := s.left * 10 + ((c.toNat : Int) - 48) }
def Cs.less (s : Cs) : Cs := { s with left := s.left - 1 }
def Cs.on (s : Cs) : Cs := { s with taken := s.taken + 1 }
def Cs.to (s : Cs) (n : Int) : Cs := { s with st := n }
/-- What is behind a byte, and the next state. -/
def beginC (s : Cs) (c : UInt8) : Cs × Int :=
  if c = 34 then (s.fresh, 4) else if c = 40 then (s.fresh.keep c, 6) else if c = 123 then (s.fresh, 9) else if s.fresh.may c then (s.fresh.takes c, 1) else (s.fresh, 15)
def endC (s : Cs) (c : UInt8) : Cs × Int :=
  if c = 32 ∧ s.shut.words.length < 12 then (s.shut, 0) else if c = 13 then (s.shut, 3) else (s.shut, 15)
def quotedC (s : Cs) (c : UInt8) : Cs × Int :=
  if c = 34 then (s, 2) else if c = 92 then (s, 5) else if prB c then (s.keep c, 4) else (s, 15)
def listC (s : Cs) (c : UInt8) : Cs × Int :=
  if s.may c then (s.takes c, 8) else if c = 32 then (s.keep c, 7) else if c = 41 then (s.keep c, 2) else (s, 15)
def lengthC (s : Cs) (c : UInt8) : Cs × Int :=
  if 48 ≤ c.toNat ∧ c.toNat ≤ 57 ∧ s.run < 3 then (s.fig c, 10) else if c = 125 ∧ s.taken + 2 + s.left + 2 ≤ 300 then (s, 11) else (s, 15)
def highC (s : Cs) (c : UInt8) : Cs × Int :=
  if s.st = 7 then (if plB c then listC s.anew c else (s, 15))
  else if s.st = 8 then listC s c
  else if s.st = 9 then (if c = 125 then (s, 15) else lengthC s c)
  else if s.st = 10 then lengthC s c
  else if s.st = 11 then (s, if c = 13 then 12 else 15)
  else if s.st = 12 then (s, if c = 10 then 13 else 15)
  else if s.st = 13 then (if s.left = 0 then endC s c else (s.less.keep c, 13))
  else (s, 15)
def nextC (s : Cs) (c : UInt8) : Cs × Int :=
  if s.st = 0 then beginC s c
  else if s.st = 1 then (if s.may c then (s.takes c, 1) else endC s c)
  else if s.st = 2 then endC s c
  else if s.st = 3 then (s, if c = 10 then 14 else 15)
  else if s.st = 4 then quotedC s c
  else if s.st = 5 then (if c = 34 ∨ c = 92 then (s.keep c, 4) else (s, 15))
  else if s.st = 6 then (if c = 41 then (s.keep c, 2) else if plB c then listC s.anew c else (s, 15))
  else highC s c
def stepC (s : Cs) (c : UInt8) : Cs := (nextC s.on c).1.to (nextC s.on c).2
def csNil : Cs := ⟨0, 0, [], [], 0, 0⟩
def Cs.stops (s : Cs) : Bool := s.st == 14 || s.st == 15
/-- The bytes one by one, until nothing is to be read any more. -/
def runC : Cs → List UInt8 → Cs
  | s, [] => s
  | s, c :: r => if (stepC s c).stops then stepC s c else runC (stepC s c) r
def rdV (t : List UInt8) : List (List UInt8) × Int × Int :=
  if (runC csNil (t.take 300)).st = 14 then ((runC csNil (t.take 300)).words, (runC csNil (t.take 300)).taken, 0)
  else if (runC csNil (t.take 300)).st = 15 then ([], 0, 2)
  else if 300 ≤ t.length then ([], 0, 2) else ([], 0, 1)

/-- What is so while it reads. -/
structure Fine (s : Cs) : Prop where
  t0 : 0 ≤ s.taken
  word : (s.word.length : Int) ≤ s.taken
  words : (s.words.length : Int) ≤ s.taken
  r0 : 0 ≤ s.run
  r1 : s.run ≤ s.taken
  l0 : 0 ≤ s.left
  l1 : s.left ≤ 999
  f0 : s.run = 0 → s.left = 0 ∨ s.st = 13
  f1 : s.run = 1 → s.left ≤ 9
  f2 : s.run = 2 → s.left ≤ 99
  z : s.st < 9 → s.left = 0
theorem fine_nil : Fine csNil := ⟨by decide, by decide, by decide, by decide, by decide, by decide, by decide, fun _ => .inl rfl, fun h => (by cases h), fun h => (by cases h), fun _ => rfl⟩
/-- The same, a byte on. -/
structure FineOn (s : Cs) : Prop where
  t0 : 1 ≤ s.taken
  word : (s.word.length : Int) ≤ s.taken - 1
  words : (s.words.length : Int) ≤ s.taken - 1
  r0 : 0 ≤ s.run
  r1 : s.run ≤ s.taken - 1
  l0 : 0 ≤ s.left
  l1 : s.left ≤ 999
  f0 : s.run = 0 → s.left = 0 ∨ s.st = 13
  f1 : s.run = 1 → s.left ≤ 9
  f2 : s.run = 2 → s.left ≤ 99
  z : s.st < 9 → s.left = 0
theorem Fine.on {s : Cs} (h : Fine s) : FineOn s.on := by
  obtain ⟨a1, a2, a3, a4, a5, a6, a7, a8, a9, b1, b2⟩ := h
  constructor <;> simp only [Cs.on] <;> first | assumption | omega
def Nx (s : Cs) (r : Cs × Int) : Prop := Fine (r.1.to r.2) ∧ r.1.taken = s.taken
theorem nx_same {s : Cs} (h : FineOn s) (n : Int) (hn : s.left = 0 ∨ (9 ≤ n ∧ (s.run ≠ 0 ∨ n = 13))) : Nx s (s, n) := by
  obtain ⟨a1, a2, a3, a4, a5, a6, a7, a8, a9, b1, b2⟩ := h
  refine ⟨?_, rfl⟩
  constructor <;> simp only [Cs.to] <;> omega
theorem nx_keep {s : Cs} (h : FineOn s) (c : UInt8) (n : Int) (hn : s.left = 0 ∨ n = 13) : Nx s (s.keep c, n) := by
  obtain ⟨a1, a2, a3, a4, a5, a6, a7, a8, a9, b1, b2⟩ := h
  refine ⟨?_, rfl⟩
  constructor <;> simp only [Cs.to, Cs.keep, List.length_append, List.length_singleton] <;> omega
theorem nx_takes {s : Cs} (h : FineOn s) (c : UInt8) (n : Int) (hn : s.left = 0) : Nx s (s.takes c, n) := by
  unfold Cs.takes
  split
  · obtain ⟨a1, a2, a3, a4, a5, a6, a7, a8, a9, b1, b2⟩ := h
    refine ⟨?_, rfl⟩
    constructor <;> simp only [Cs.to, Cs.more, List.length_append, List.length_singleton] <;> omega
  · exact nx_same h n (.inl hn)
theorem FineOn.fresh {s : Cs} (h : FineOn s) : FineOn s.fresh := by
  obtain ⟨a1, a2, a3, a4, a5, a6, a7, a8, a9, b1, b2⟩ := h
  constructor <;> simp only [Cs.fresh, List.length_nil] <;> first | omega | simp
theorem FineOn.anew {s : Cs} (h : FineOn s) (hl : s.left = 0) : FineOn s.anew := by
  obtain ⟨a1, a2, a3, a4, a5, a6, a7, a8, a9, b1, b2⟩ := h
  constructor <;> simp only [Cs.anew] <;> omega
theorem nx_begin {s : Cs} (h : FineOn s) (c : UInt8) : Nx s (beginC s c) := by
  have hf := h.fresh
  have hz : s.fresh.left = 0 := rfl
  show Nx s.fresh (beginC s c)
  unfold beginC
  split
  · exact nx_same hf _ (.inl hz)
  · split
    · exact nx_keep hf c _ (.inl hz)
    · split
      · exact nx_same hf _ (.inl hz)
      · split
        · exact nx_takes hf c _ hz
        · exact nx_same hf _ (.inl hz)
theorem nx_shut {s : Cs} (h : FineOn s) (n : Int) (hn : s.left = 0) : Nx s (s.shut, n) := by
  obtain ⟨a1, a2, a3, a4, a5, a6, a7, a8, a9, b1, b2⟩ := h
  refine ⟨?_, rfl⟩
  constructor <;> simp only [Cs.to, Cs.shut, List.length_append, List.length_singleton] <;> omega
theorem nx_end {s : Cs} (h : FineOn s) (c : UInt8) (hz : s.left = 0) : Nx s (endC s c) := by
  unfold endC
  split
  · exact nx_shut h _ hz
  · split <;> exact nx_shut h _ hz
theorem nx_list {s : Cs} (h : FineOn s) (c : UInt8) (hz : s.left = 0) : Nx s (listC s c) := by
  unfold listC
  split
  · exact nx_takes h c _ hz
  · split
    · exact nx_keep h c _ (.inl hz)
    · split
      · exact nx_keep h c _ (.inl hz)
      · exact nx_same h _ (.inl hz)
theorem nx_length {s : Cs} (h : FineOn s) (c : UInt8) (hs : s.st ≠ 13) : Nx s (lengthC s c) := by
  have h1 := h.f0
  unfold lengthC
  split
  · rename_i q
    obtain ⟨a1, a2, a3, a4, a5, a6, a7, a8, a9, b1, b2⟩ := h
    refine ⟨?_, rfl⟩
    constructor <;> simp only [Cs.to, Cs.fig] <;> omega
  · split <;> exact nx_same h _ (by omega)
theorem nx_high {s : Cs} (h : FineOn s) (c : UInt8) : Nx s (highC s c) := by
  have hz := h.z
  have h1 := h.f0
  unfold highC
  split
  · split
    · exact nx_list (s := s.anew) (h.anew (hz (by omega))) c (hz (by omega))
    · exact nx_same h _ (.inl (hz (by omega)))
  · split
    · exact nx_list h c (hz (by omega))
    · split
      · split
        · exact nx_same h _ (by omega)
        · exact nx_length h c (by omega)
      · split
        · exact nx_length h c (by omega)
        · split
          · exact nx_same h _ (by split <;> omega)
          · split
            · exact nx_same h _ (by split <;> omega)
            · split
              · split
                · exact nx_end h c (by assumption)
                · rename_i q
                  obtain ⟨a1, a2, a3, a4, a5, a6, a7, a8, a9, b1, b2⟩ := h
                  refine ⟨?_, rfl⟩
                  constructor <;> simp only [Cs.to, Cs.less, Cs.keep, List.length_append, List.length_singleton] <;> first | omega | simp
              · exact ⟨by
                  obtain ⟨a1, a2, a3, a4, a5, a6, a7, a8, a9, b1, b2⟩ := h
                  constructor <;> simp only [Cs.to] <;> omega, rfl⟩
theorem nx_next {s : Cs} (h : FineOn s) (c : UInt8) : Nx s (nextC s c) := by
  have hz := h.z
  unfold nextC
  split
  · exact nx_begin h c
  · split
    · split
      · exact nx_takes h c _ (hz (by omega))
      · exact nx_end h c (hz (by omega))
    · split
      · exact nx_end h c (hz (by omega))
      · split
        · exact nx_same h _ (.inl (hz (by omega)))
        · split
          · unfold quotedC
            split
            · exact nx_same h _ (.inl (hz (by omega)))
            · split
              · exact nx_same h _ (.inl (hz (by omega)))
              · split
                · exact nx_keep h c _ (.inl (hz (by omega)))
                · exact nx_same h _ (.inl (hz (by omega)))
          · split
            · split
              · exact nx_keep h c _ (.inl (hz (by omega)))
              · exact nx_same h _ (.inl (hz (by omega)))
            · split
              · split
                · exact nx_keep h c _ (.inl (hz (by omega)))
                · split
                  · exact nx_list (s := s.anew) (h.anew (hz (by omega))) c (hz (by omega))
                  · exact nx_same h _ (.inl (hz (by omega)))
              · exact nx_high h c
theorem fine_step {s : Cs} (h : Fine s) (c : UInt8) : Fine (stepC s c) ∧ (stepC s c).taken = s.taken + 1 := nx_next h.on c
end Go.Proofs.YtjaohlnejkgkaaaGreatDoor.Plain
namespace Go.Proofs.YtjaohlnejkgkaaaGreatDoor.Plain
set_option linter.unusedVariables false

def Rg15 (r : Cs × Int) : Prop := 0 ≤ r.2 ∧ r.2 ≤ 15
theorem rg_of (s : Cs) {n : Int} (h0 : 0 ≤ n) (h1 : n ≤ 15) : Rg15 (s, n) := ⟨h0, h1⟩
theorem rg_if (s : Cs) (p : Prop) [Decidable p] {n : Int} (h0 : 0 ≤ n) (h1 : n ≤ 15) : Rg15 (s, if p then n else 15) := by split; exact ⟨h0, h1⟩; exact ⟨show (0 : Int) ≤ 15 by decide, show (15 : Int) ≤ 15 by decide⟩
theorem rg_begin (s : Cs) (c : UInt8) : Rg15 (beginC s c) := by
  unfold beginC
  repeat' split
  all_goals exact rg_of _ (by decide) (by decide)
theorem rg_end (s : Cs) (c : UInt8) : Rg15 (endC s c) := by
  unfold endC
  repeat' split
  all_goals exact rg_of _ (by decide) (by decide)
theorem rg_quoted (s : Cs) (c : UInt8) : Rg15 (quotedC s c) := by
  unfold quotedC
  repeat' split
  all_goals exact rg_of _ (by decide) (by decide)
theorem rg_list (s : Cs) (c : UInt8) : Rg15 (listC s c) := by
  unfold listC
  repeat' split
  all_goals exact rg_of _ (by decide) (by decide)
theorem rg_length (s : Cs) (c : UInt8) : Rg15 (lengthC s c) := by
  unfold lengthC
  repeat' split
  all_goals exact rg_of _ (by decide) (by decide)
theorem rg_high (s : Cs) (c : UInt8) : Rg15 (highC s c) := by
  unfold highC
  repeat' (first | exact rg_list _ c | exact rg_length _ c | exact rg_end _ c | exact rg_of _ (by decide) (by decide) | exact rg_if _ _ (by decide) (by decide) | split)
theorem rg_next (s : Cs) (c : UInt8) : Rg15 (nextC s c) := by
  unfold nextC
  repeat' (first | exact rg_begin _ c | exact rg_list _ c | exact rg_quoted _ c | exact rg_end _ c | exact rg_high _ c | exact rg_of _ (by decide) (by decide) | exact rg_if _ _ (by decide) (by decide) | split)
theorem step_st (s : Cs) (c : UInt8) : 0 ≤ (stepC s c).st ∧ (stepC s c).st ≤ 15 := rg_next s.on c
theorem runC_cons (s : Cs) (c : UInt8) (r : List UInt8) : runC s (c :: r) = if (stepC s c).stops then stepC s c else runC (stepC s c) r := rfl
theorem stops_14 {s : Cs} (h : s.st = 14) : s.stops = true := by unfold Cs.stops; rw [h]; rfl
theorem stops_15 {s : Cs} (h : s.st = 15) : s.stops = true := by unfold Cs.stops; rw [h]; rfl
theorem stops_no {s : Cs} (h : s.st ≤ 13) : s.stops = false := by
  unfold Cs.stops
  rw [show (s.st == 14) = false from beq_eq_false_iff_ne.2 (by omega), show (s.st == 15) = false from beq_eq_false_iff_ne.2 (by omega)]; rfl
theorem rdV_all {t : List UInt8} {s : Cs} (h : runC csNil (t.take 300) = s) (h1 : s.st = 14) : rdV t = (s.words, s.taken, 0) := by unfold rdV; rw [h, if_pos h1]
theorem rdV_bad {t : List UInt8} {s : Cs} (h : runC csNil (t.take 300) = s) (h1 : s.st = 15) : rdV t = ([], 0, 2) := by unfold rdV; rw [h, if_neg (by omega), if_pos h1]
theorem rdV_long {t : List UInt8} {s : Cs} (h : runC csNil (t.take 300) = s) (h1 : s.st ≤ 13) (h2 : 300 ≤ t.length) : rdV t = ([], 0, 2) := by unfold rdV; rw [h, if_neg (by omega), if_neg (by omega), if_pos h2]
theorem rdV_more {t : List UInt8} {s : Cs} (h : runC csNil (t.take 300) = s) (h1 : s.st ≤ 13) (h2 : ¬ 300 ≤ t.length) : rdV t = ([], 0, 1) := by unfold rdV; rw [h, if_neg (by omega), if_neg (by omega), if_neg h2]
end Go.Proofs.YtjaohlnejkgkaaaGreatDoor.Plain
namespace Go.Proofs.YtjaohlnejkgkaaaGreatDoor.Plain
set_option linter.unusedVariables false

/-- Bytes that are read with none that stops. -/
def Run : Cs → List UInt8 → Cs → Prop
  | s, [], z => z = s
  | s, c :: l, z => (stepC s c).st ≤ 13 ∧ Run (stepC s c) l z
theorem Run.append : ∀ (l : List UInt8) {s y z : Cs} {m : List UInt8}, Run s l y → Run y m z → Run s (l ++ m) z := by
  intro l
  induction l with
  | nil => intro s y z m h1 h2; cases h1; exact h2
  | cons c l ih => intro s y z m h1 h2; exact ⟨h1.1, ih h1.2 h2⟩
theorem Run.runC : ∀ (l : List UInt8) {s z : Cs} (r : List UInt8), Run s l z → runC s (l ++ r) = runC z r := by
  intro l
  induction l with
  | nil => intro s z r h; cases h; rfl
  | cons c l ih =>
    intro s z r h
    rw [List.cons_append, runC_cons, stops_no h.1, ← ih r h.2]; rfl
theorem Run.take : ∀ (l : List UInt8) {s z : Cs} (k : Nat), Run s l z → ∃ y, Run s (l.take k) y ∧ (y.st ≤ 13 ∨ y = s) := by
  intro l
  induction l with
  | nil => intro s z k h; exact ⟨s, by simp [Run], .inr rfl⟩
  | cons c l ih =>
    intro s z k h
    cases k with
    | zero => exact ⟨s, rfl, .inr rfl⟩
    | succ k =>
      obtain ⟨y, h1, h2⟩ := ih k h.2
      refine ⟨y, ⟨h.1, h1⟩, .inl ?_⟩
      rcases h2 with h2 | rfl
      · exact h2
      · exact h.1
theorem Run.cons {s y : Cs} {c : UInt8} {n : Int} {l : List UInt8} {z : Cs} (h : nextC s.on c = (y, n)) (h2 : n ≤ 13) (h3 : Run (y.to n) l z) : Run s (c :: l) z := by
  have e : stepC s c = y.to n := by show (nextC s.on c).1.to (nextC s.on c).2 = _; rw [h]
  exact ⟨by rw [e]; exact h2, by rw [e]; exact h3⟩
theorem Run.one {s y : Cs} {c : UInt8} {n : Int} (h : nextC s.on c = (y, n)) (h2 : n ≤ 13) : Run s [c] (y.to n) := Run.cons h h2 rfl
theorem nx0 {s : Cs} {c : UInt8} (h : s.st = 0) : nextC s.on c = beginC s.on c := if_pos h
theorem nx1 {s : Cs} {c : UInt8} (h : s.st = 1) : nextC s.on c = if s.may c then (s.on.takes c, 1) else endC s.on c := by
  unfold nextC; rw [show s.on.st = 1 from h]; rfl
theorem nx2 {s : Cs} {c : UInt8} (h : s.st = 2) : nextC s.on c = endC s.on c := by
  unfold nextC; rw [show s.on.st = 2 from h]; rfl
theorem nx3 {s : Cs} {c : UInt8} (h : s.st = 3) : nextC s.on c = (s.on, if c = 10 then 14 else 15) := by
  unfold nextC; rw [show s.on.st = 3 from h]; rfl
theorem nx4 {s : Cs} {c : UInt8} (h : s.st = 4) : nextC s.on c = quotedC s.on c := by
  unfold nextC; rw [show s.on.st = 4 from h]; rfl
theorem nx5 {s : Cs} {c : UInt8} (h : s.st = 5) : nextC s.on c = if c = 34 ∨ c = 92 then (s.on.keep c, 4) else (s.on, 15) := by
  unfold nextC; rw [show s.on.st = 5 from h]; rfl
theorem nx6 {s : Cs} {c : UInt8} (h : s.st = 6) : nextC s.on c = if c = 41 then (s.on.keep c, 2) else if plB c then listC s.on.anew c else (s.on, 15) := by
  unfold nextC; rw [show s.on.st = 6 from h]; rfl
theorem nx7 {s : Cs} {c : UInt8} (h : s.st = 7) : nextC s.on c = if plB c then listC s.on.anew c else (s.on, 15) := by
  unfold nextC highC; rw [show s.on.st = 7 from h]; rfl
theorem nx8 {s : Cs} {c : UInt8} (h : s.st = 8) : nextC s.on c = listC s.on c := by
  unfold nextC highC; rw [show s.on.st = 8 from h]; rfl
theorem nx9 {s : Cs} {c : UInt8} (h : s.st = 9) : nextC s.on c = if c = 125 then (s.on, 15) else lengthC s.on c := by
  unfold nextC highC; rw [show s.on.st = 9 from h]; rfl
theorem nx10 {s : Cs} {c : UInt8} (h : s.st = 10) : nextC s.on c = lengthC s.on c := by
  unfold nextC highC; rw [show s.on.st = 10 from h]; rfl
theorem nx11 {s : Cs} {c : UInt8} (h : s.st = 11) : nextC s.on c = (s.on, if c = 13 then 12 else 15) := by
  unfold nextC highC; rw [show s.on.st = 11 from h]; rfl
theorem nx12 {s : Cs} {c : UInt8} (h : s.st = 12) : nextC s.on c = (s.on, if c = 10 then 13 else 15) := by
  unfold nextC highC; rw [show s.on.st = 12 from h]; rfl
theorem nx13 {s : Cs} {c : UInt8} (h : s.st = 13) : nextC s.on c = if s.left = 0 then endC s.on c else (s.on.less.keep c, 13) := by
  unfold nextC highC; rw [show s.on.st = 13 from h]; rfl

/-- Where a word is wanted. -/
def AtWord (W : List (List UInt8)) (n : Int) (s : Cs) : Prop := s.st = 0 ∧ s.words = W ∧ s.taken = n
/-- Where a word may end. -/
def EndAble (W : List (List UInt8)) (w : List UInt8) (n : Int) (s : Cs) : Prop := (s.st = 1 ∨ s.st = 2 ∨ (s.st = 13 ∧ s.left = 0)) ∧ s.words = W ∧ s.word = w ∧ s.taken = n
theorem may_yes {s : Cs} {c : UInt8} (h : plB c = true) (h2 : s.run ≠ 60) : s.may c = true := by unfold Cs.may; rw [h, show (s.run == 60) = false from beq_eq_false_iff_ne.2 h2]; rfl
theorem may_no {s : Cs} {c : UInt8} (h : plB c = false) : s.may c = false := by unfold Cs.may; rw [h]; rfl
theorem takes_yes {s : Cs} {c : UInt8} (h : s.may c = true) : s.takes c = s.more c := if_pos h
/-- As it is: the rest of it. -/
theorem plain_go : ∀ (l : List UInt8) (s : Cs), l.all plB = true → s.st = 1 → s.run + l.length ≤ 60 → ∃ z, Run s l z ∧ z.st = 1 ∧ z.words = s.words ∧ z.word = s.word ++ l ∧ z.taken = s.taken + l.length := by
  intro l
  induction l with
  | nil => intro s _ h1 _; exact ⟨s, rfl, h1, rfl, by simp, by simp⟩
  | cons c l ih =>
    intro s ha h1 hr
    rw [List.all_cons, Bool.and_eq_true] at ha
    rw [List.length_cons] at hr
    have hm : s.may c = true := may_yes ha.1 (by omega)
    have hn : nextC s.on c = (s.on.more c, 1) := by rw [nx1 h1, if_pos hm, takes_yes (show s.on.may c = true from hm)]
    obtain ⟨z, h2, h3, h4, h5, h6⟩ := ih ((s.on.more c).to 1) ha.2 rfl (by show s.run + 1 + _ ≤ 60; omega)
    refine ⟨z, Run.cons hn (by decide) h2, h3, h4, ?_, ?_⟩
    · rw [h5]; simp [Cs.to, Cs.more, Cs.on]
    · rw [h6]; simp only [Cs.to, Cs.more, Cs.on, List.length_cons]; omega
theorem plain_sign {c : UInt8} (h : plB c = true) : c ≠ 34 ∧ c ≠ 40 ∧ c ≠ 123 ∧ c ≠ 41 ∧ c ≠ 32 := by
  refine ⟨?_, ?_, ?_, ?_, ?_⟩ <;> (rintro rfl; revert h; decide)
theorem plain_run {W : List (List UInt8)} {n : Int} {s : Cs} {w : List UInt8} (hs : AtWord W n s) (hw : plainW w = true) : ∃ z, Run s w z ∧ EndAble W w (n + w.length) z := by
  obtain ⟨h0, h1, h2⟩ := hs
  rw [plainW_nat] at hw
  simp only [Bool.and_eq_true, decide_eq_true_eq] at hw
  obtain ⟨ha, hl1, hl2⟩ := hw
  cases w with
  | nil => simp at hl1
  | cons c l =>
    rw [List.all_cons, Bool.and_eq_true] at ha
    obtain ⟨p1, p2, p3, p4, p5⟩ := plain_sign ha.1
    have hm : s.on.fresh.may c = true := may_yes ha.1 (show (0 : Int) ≠ 60 by decide)
    have hn : nextC s.on c = (s.on.fresh.more c, 1) := by rw [nx0 h0]; unfold beginC; rw [if_neg p1, if_neg p2, if_neg p3, if_pos hm, takes_yes hm]
    rw [List.length_cons] at hl2
    obtain ⟨z, h3, h4, h5, h6, h7⟩ := plain_go l ((s.on.fresh.more c).to 1) ha.2 rfl (by show (0 : Int) + 1 + _ ≤ 60; omega)
    refine ⟨z, Run.cons hn (by decide) h3, .inl h4, h5.trans h1, ?_, ?_⟩
    · rw [h6]; simp [Cs.to, Cs.more, Cs.fresh]
    · rw [h7]; simp only [Cs.to, Cs.more, Cs.fresh, Cs.on, List.length_cons]; omega
/-- In quotation marks: the rest of it. -/
theorem quote_go : ∀ (l : List UInt8) (s : Cs), l.all prB = true → s.st = 4 → ∃ z, Run s (l.flatMap quB ++ [34]) z ∧ z.st = 2 ∧ z.words = s.words ∧ z.word = s.word ++ l ∧ z.taken = s.taken + ((l.flatMap quB).length + 1 : Nat) := by
  intro l
  induction l with
  | nil =>
    intro s _ h1
    have hn : nextC s.on 34 = (s.on, 2) := by rw [nx4 h1]; unfold quotedC; rw [if_pos rfl]
    exact ⟨_, Run.one hn (by decide), rfl, rfl, by simp [Cs.to, Cs.on], by simp [Cs.to, Cs.on]⟩
  | cons c l ih =>
    intro s ha h1
    rw [List.all_cons, Bool.and_eq_true] at ha
    rw [List.flatMap_cons]
    by_cases hc : c = 34 ∨ c = 92
    · have e : quB c = [92, c] := if_pos hc
      have hn : nextC s.on 92 = (s.on, 5) := by rw [nx4 h1]; unfold quotedC; rw [if_neg (by decide), if_pos rfl]
      have hn2 : nextC (s.on.to 5).on c = ((s.on.to 5).on.keep c, 4) := by rw [nx5 (s := s.on.to 5) rfl, if_pos hc]
      obtain ⟨z, h2, h3, h4, h5, h6⟩ := ih (((s.on.to 5).on.keep c).to 4) ha.2 rfl
      rw [e]
      refine ⟨z, Run.cons hn (by decide) (Run.cons hn2 (by decide) h2), h3, h4, ?_, ?_⟩
      · rw [h5]; simp [Cs.to, Cs.keep, Cs.on]
      · rw [h6]; simp only [Cs.to, Cs.keep, Cs.on, List.length_append, List.length_cons, List.length_nil]; omega
    · have e : quB c = [c] := if_neg hc
      have hn : nextC s.on c = (s.on.keep c, 4) := by rw [nx4 h1]; unfold quotedC; rw [if_neg (fun h => hc (.inl h)), if_neg (fun h => hc (.inr h)), if_pos ha.1]
      obtain ⟨z, h2, h3, h4, h5, h6⟩ := ih ((s.on.keep c).to 4) ha.2 rfl
      rw [e]
      refine ⟨z, Run.cons hn (by decide) h2, h3, h4, ?_, ?_⟩
      · rw [h5]; simp [Cs.to, Cs.keep, Cs.on]
      · rw [h6]; simp only [Cs.to, Cs.keep, Cs.on, List.length_append, List.length_cons, List.length_nil]; omega
theorem quote_run {W : List (List UInt8)} {n : Int} {s : Cs} {w : List UInt8} (hs : AtWord W n s) (hw : w.all prB = true) : ∃ z, Run s (quoteL w) z ∧ EndAble W w (n + (quoteL w).length) z := by
  obtain ⟨h0, h1, h2⟩ := hs
  have hn : nextC s.on 34 = (s.on.fresh, 4) := by rw [nx0 h0]; unfold beginC; rw [if_pos rfl]
  obtain ⟨z, h3, h4, h5, h6, h7⟩ := quote_go w (s.on.fresh.to 4) hw rfl
  refine ⟨z, Run.cons hn (by decide) h3, .inr (.inl h4), h5.trans h1, ?_, ?_⟩
  · rw [h6]; simp [Cs.to, Cs.fresh]
  · rw [h7]; unfold quoteL; simp only [Cs.to, Cs.fresh, Cs.on, List.length_cons, List.length_append, List.length_nil]; omega
/-- A list: the rest of it. -/
theorem list_go : ∀ (q : List UInt8) (st : Bool) (k : Nat) (s : Cs), okIn st k q = true → ((st = true ∧ k = 0 ∧ s.st = 6) ∨ (st = false ∧ k = 0 ∧ s.st = 7) ∨ (0 < k ∧ s.st = 8 ∧ s.run = k)) →
    ∃ z, Run s (q ++ [41]) z ∧ z.st = 2 ∧ z.words = s.words ∧ z.word = s.word ++ (q ++ [41]) ∧ z.taken = s.taken + (q.length + 1 : Nat) := by
  intro q
  induction q with
  | nil =>
    intro st k s ho hs
    have hn : nextC s.on 41 = (s.on.keep 41, 2) := by
      rcases hs with ⟨rfl, rfl, h⟩ | ⟨rfl, rfl, h⟩ | ⟨hk, h, hr⟩
      · rw [nx6 h, if_pos rfl]
      · exact absurd ho (by decide)
      · rw [nx8 h]; unfold listC; rw [may_no plB_41, if_neg (by decide), if_neg (by decide), if_pos rfl]
    exact ⟨_, Run.one hn (by decide), rfl, rfl, by simp [Cs.to, Cs.keep, Cs.on], by simp [Cs.to, Cs.keep, Cs.on]⟩
  | cons c q ih =>
    intro st k s ho hs
    rw [okIn] at ho
    by_cases hc : c = 32
    · rw [if_pos hc] at ho
      by_cases hk : k = 0
      · rw [if_pos hk] at ho; cases ho
      · rw [if_neg hk] at ho
        obtain ⟨h, hr⟩ : s.st = 8 ∧ s.run = k := by rcases hs with h | h | h; exact absurd h.2.1 hk; exact absurd h.2.1 hk; exact h.2
        have hn : nextC s.on c = (s.on.keep c, 7) := by
          rw [nx8 h]; unfold listC; rw [may_no (by rw [hc]; decide), if_neg (by decide), if_pos hc]
        obtain ⟨z, h2, h3, h4, h5, h6⟩ := ih false 0 ((s.on.keep c).to 7) ho (.inr (.inl ⟨rfl, rfl, rfl⟩))
        refine ⟨z, Run.cons hn (by decide) h2, h3, h4, ?_, ?_⟩
        · rw [h5]; simp [Cs.to, Cs.keep, Cs.on]
        · rw [h6]; simp only [Cs.to, Cs.keep, Cs.on, List.length_cons]; omega
    · rw [if_neg hc] at ho
      by_cases hp : plB c = false ∨ k = 60
      · rw [if_pos hp] at ho; cases ho
      · rw [if_neg hp] at ho
        have hb : plB c = true := by cases h : plB c with
          | false => exact absurd (Or.inl h) hp
          | true => rfl
        have hk : k ≠ 60 := fun h => hp (.inr h)
        obtain ⟨p1, p2, p3, p4, p5⟩ := plain_sign hb
        obtain ⟨y, hn, hy1, hy2, hy3, hy4⟩ : ∃ y, nextC s.on c = (y, 8) ∧ y.run = (k : Int) + 1 ∧ y.words = s.words ∧ y.word = s.word ++ [c] ∧ y.taken = s.taken + 1 := by
          rcases hs with ⟨rfl, rfl, h⟩ | ⟨rfl, rfl, h⟩ | ⟨hk0, h, hr⟩
          · have hm : s.on.anew.may c = true := may_yes hb (show (0 : Int) ≠ 60 by decide)
            refine ⟨s.on.anew.more c, ?_, rfl, rfl, rfl, rfl⟩
            rw [nx6 h, if_neg p4, if_pos hb]; unfold listC; rw [if_pos hm, takes_yes hm]
          · have hm : s.on.anew.may c = true := may_yes hb (show (0 : Int) ≠ 60 by decide)
            refine ⟨s.on.anew.more c, ?_, rfl, rfl, rfl, rfl⟩
            rw [nx7 h, if_pos hb]; unfold listC; rw [if_pos hm, takes_yes hm]
          · have hm : s.on.may c = true := may_yes hb (by show s.run ≠ 60; omega)
            refine ⟨s.on.more c, ?_, by show s.run + 1 = _; omega, rfl, rfl, rfl⟩
            rw [nx8 h]; unfold listC; rw [if_pos hm, takes_yes hm]
        obtain ⟨z, h2, h3, h4, h5, h6⟩ := ih false (k + 1) (y.to 8) ho (.inr (.inr ⟨by omega, rfl, by show y.run = _; rw [hy1]; omega⟩))
        refine ⟨z, Run.cons hn (by decide) h2, h3, h4.trans hy2, ?_, ?_⟩
        · rw [h5]; show y.word ++ _ = _; rw [hy3]; simp
        · rw [h6]; show y.taken + _ = _; rw [hy4]; simp only [List.length_cons]; omega
theorem list_run {W : List (List UInt8)} {n : Int} {s : Cs} {w : List UInt8} (hs : AtWord W n s) (hw : listW w = true) : ∃ z, Run s w z ∧ EndAble W w (n + w.length) z := by
  obtain ⟨h0, h1, h2⟩ := hs
  cases w with
  | nil => cases hw
  | cons b r =>
    have hw' : (b == 40 && scanL true 0 1 r == ((r.length : Int) + 1)) = true := hw
    rw [Bool.and_eq_true, beq_iff_eq, beq_iff_eq] at hw'
    obtain ⟨rfl, hx⟩ := hw'
    obtain ⟨q, rfl, ho⟩ := (scan_is r true 0 1 (by omega)).1 (by rw [hx]; omega)
    have hn : nextC s.on 40 = (s.on.fresh.keep 40, 6) := by rw [nx0 h0]; unfold beginC; rw [if_neg (by decide), if_pos rfl]
    obtain ⟨z, h3, h4, h5, h6, h7⟩ := list_go q true 0 ((s.on.fresh.keep 40).to 6) ho (.inl ⟨rfl, rfl, rfl⟩)
    refine ⟨z, Run.cons hn (by decide) h3, .inr (.inl h4), h5.trans h1, ?_, ?_⟩
    · rw [h6]; simp [Cs.to, Cs.fresh, Cs.keep]
    · rw [h7]; simp only [Cs.to, Cs.fresh, Cs.keep, Cs.on, List.length_cons, List.length_append, List.length_nil]; omega
/-- By its length: the figures. -/
theorem fig_one {s : Cs} {d : Nat} (hd : d < 10) (h : (s.st = 9 ∨ s.st = 10) ∧ s.run < 3) : ∃ z, Run s [UInt8.ofNat (48 + d)] z ∧ z.st = 10 ∧ z.words = s.words ∧ z.word = s.word ∧ z.taken = s.taken + 1 ∧ z.run = s.run + 1 ∧ z.left = s.left * 10 + d := by
  have hc : (UInt8.ofNat (48 + d)).toNat = 48 + d := by rw [UInt8.toNat_ofNat']; omega
  have hl : lengthC s.on (UInt8.ofNat (48 + d)) = (s.on.fig (UInt8.ofNat (48 + d)), 10) := if_pos ⟨by omega, by omega, h.2⟩
  have hn : nextC s.on (UInt8.ofNat (48 + d)) = (s.on.fig (UInt8.ofNat (48 + d)), 10) := by
    rcases h.1 with h9 | h10
    · rw [nx9 h9, if_neg (fun e => by have := congrArg UInt8.toNat e; rw [hc] at this; simp at this; omega), hl]
    · rw [nx10 h10, hl]
  refine ⟨_, Run.one hn (by decide), rfl, rfl, rfl, rfl, rfl, ?_⟩
  show s.left * 10 + (((UInt8.ofNat (48 + d)).toNat : Int) - 48) = _
  rw [hc]; omega
theorem figs_go (u : Nat) (hu : u < 1000) {s : Cs} (h9 : s.st = 9) (hr : s.run = 0) (hl : s.left = 0) : ∃ z, Run s (figL u) z ∧ z.st = 10 ∧ z.words = s.words ∧ z.word = s.word ∧ z.taken = s.taken + (figL u).length ∧ z.left = u := by
  unfold figL
  rw [itoa_nat]
  by_cases h1 : u < 10
  · rw [Lib.decDigits, dif_pos h1]
    obtain ⟨z, a, b, c, d, e, f, g⟩ := fig_one h1 (s := s) ⟨.inl h9, by omega⟩
    exact ⟨z, a, b, c, d, e, by omega⟩
  · by_cases h2 : u < 100
    · rw [Lib.decDigits, dif_neg h1, Lib.decDigits, dif_pos (show u / 10 < 10 by omega)]
      obtain ⟨y, a, b, c, d, e, f, g⟩ := fig_one (show u / 10 < 10 by omega) (s := s) ⟨.inl h9, by omega⟩
      obtain ⟨z, a2, b2, c2, d2, e2, f2, g2⟩ := fig_one (show u % 10 < 10 by omega) (s := y) ⟨.inr b, by omega⟩
      exact ⟨z, Run.append _ a a2, b2, c2.trans c, d2.trans d, by simp; omega, by omega⟩
    · rw [Lib.decDigits, dif_neg h1, Lib.decDigits, dif_neg (show ¬ u / 10 < 10 by omega), Lib.decDigits, dif_pos (show u / 10 / 10 < 10 by omega)]
      obtain ⟨x, a, b, c, d, e, f, g⟩ := fig_one (show u / 10 / 10 < 10 by omega) (s := s) ⟨.inl h9, by omega⟩
      obtain ⟨y, a1, b1, c1, d1, e1, f1, g1⟩ := fig_one (show u / 10 % 10 < 10 by omega) (s := x) ⟨.inr b, by omega⟩
      obtain ⟨z, a2, b2, c2, d2, e2, f2, g2⟩ := fig_one (show u % 10 < 10 by omega) (s := y) ⟨.inr b1, by omega⟩
      exact ⟨z, Run.append _ (Run.append _ a a1) a2, b2, c2.trans (c1.trans c), d2.trans (d1.trans d), by simp; omega, by omega⟩
/-- By its length: the bytes. -/
theorem lit_go : ∀ (l : List UInt8) (s : Cs), s.st = 13 → s.left = l.length → ∃ z, Run s l z ∧ z.st = 13 ∧ z.left = 0 ∧ z.words = s.words ∧ z.word = s.word ++ l ∧ z.taken = s.taken + l.length := by
  intro l
  induction l with
  | nil => intro s h1 h2; exact ⟨s, rfl, h1, by simpa using h2, rfl, by simp, by simp⟩
  | cons c l ih =>
    intro s h1 h2
    rw [List.length_cons] at h2
    have hn : nextC s.on c = (s.on.less.keep c, 13) := by rw [nx13 h1, if_neg (by omega)]
    obtain ⟨z, h3, h4, h5, h6, h7, h8⟩ := ih ((s.on.less.keep c).to 13) rfl (by show s.left - 1 = _; omega)
    refine ⟨z, Run.cons hn (by decide) h3, h4, h5, h6, ?_, ?_⟩
    · rw [h7]; simp [Cs.to, Cs.keep, Cs.less, Cs.on]
    · rw [h8]; simp only [Cs.to, Cs.keep, Cs.less, Cs.on, List.length_cons]; omega
theorem lit_run {W : List (List UInt8)} {n : Int} {s : Cs} {w : List UInt8} (hs : AtWord W n s) (hl : w.length < 1000) (hfit : n + (litL w).length + 2 ≤ 300) : ∃ z, Run s (litL w) z ∧ EndAble W w (n + (litL w).length) z := by
  obtain ⟨h0, h1, h2⟩ := hs
  have hlen : (litL w).length = (figL w.length).length + w.length + 4 := by unfold litL; simp only [List.length_cons, List.length_append]; omega
  have hn : nextC s.on 123 = (s.on.fresh, 9) := by rw [nx0 h0]; unfold beginC; rw [if_neg (by decide), if_neg (by decide), if_pos rfl]
  obtain ⟨y, a, b, c, d, e, f⟩ := figs_go w.length hl (s := s.on.fresh.to 9) rfl rfl rfl
  have hy : y.taken = n + 1 + (figL w.length).length := by rw [e, ← h2]; rfl
  have hn2 : nextC y.on 125 = (y.on, 11) := by
    rw [nx10 b]; unfold lengthC
    rw [if_neg (fun h => by have := h.2.1; revert this; decide), if_pos ⟨rfl, by show y.taken + 1 + 2 + y.left + 2 ≤ 300; omega⟩]
  have hn3 : nextC (y.on.to 11).on 13 = ((y.on.to 11).on, 12) := by rw [nx11 (s := y.on.to 11) rfl, if_pos rfl]
  have hn4 : nextC ((y.on.to 11).on.to 12).on 10 = (((y.on.to 11).on.to 12).on, 13) := by rw [nx12 (s := (y.on.to 11).on.to 12) rfl, if_pos rfl]
  obtain ⟨z, g1, g2, g3, g4, g5, g6⟩ := lit_go w ((((y.on.to 11).on.to 12).on).to 13) rfl (by show y.left = _; exact f)
  refine ⟨z, ?_, .inr (.inr ⟨g2, g3⟩), ?_, ?_, ?_⟩
  · unfold litL
    exact Run.cons hn (by decide) (Run.append _ a (Run.cons hn2 (by decide) (Run.cons hn3 (by decide) (Run.cons hn4 (by decide) g1))))
  · rw [g4]; show y.words = W; rw [c]; exact h1
  · rw [g5]; show y.word ++ w = w; rw [d]; rfl
  · rw [g6, hlen]; show y.taken + 1 + 1 + 1 + _ = _; omega
theorem word_run {W : List (List UInt8)} {n : Int} {s : Cs} {w : List UInt8} (h0 : 0 ≤ n) (hs : AtWord W n s) (hfit : n + (wordT w).length + 2 ≤ 300) : ∃ z, Run s (wordT w) z ∧ EndAble W w (n + (wordT w).length) z := by
  unfold wordT at hfit ⊢
  by_cases h1 : (plainW w || listW w) = true
  · rw [if_pos h1] at hfit ⊢
    rw [Bool.or_eq_true] at h1
    rcases h1 with h1 | h1
    · exact plain_run hs h1
    · exact list_run hs h1
  · rw [if_neg h1] at hfit ⊢
    by_cases h2 : w.all prB = true
    · rw [if_pos h2] at hfit ⊢; exact quote_run hs h2
    · rw [if_neg h2] at hfit ⊢
      exact lit_run hs (by unfold litL at hfit; simp only [List.length_cons, List.length_append] at hfit; omega) hfit
theorem end_blank {W : List (List UInt8)} {w : List UInt8} {n : Int} {s : Cs} (h : EndAble W w n s) (hl : W.length + 1 < 12) : ∃ z, Run s [32] z ∧ AtWord (W ++ [w]) (n + 1) z := by
  obtain ⟨h1, h2, h3, h4⟩ := h
  have he : endC s.on 32 = (s.on.shut, 0) := if_pos ⟨rfl, by show (s.words ++ [s.word]).length < 12; rw [h2]; simp; omega⟩
  have hn : nextC s.on 32 = (s.on.shut, 0) := by
    rcases h1 with h1 | h1 | ⟨h1, hz⟩
    · rw [nx1 h1, may_no (by decide), if_neg (by decide), he]
    · rw [nx2 h1, he]
    · rw [nx13 h1, if_pos hz, he]
  refine ⟨_, Run.one hn (by decide), rfl, ?_, ?_⟩
  · show s.words ++ [s.word] = _; rw [h2, h3]
  · show s.taken + 1 = _; rw [h4]
theorem end_line {W : List (List UInt8)} {w : List UInt8} {n : Int} {s : Cs} (h : EndAble W w n s) : ∃ z, Run s [13] z ∧ z.st = 3 ∧ z.words = W ++ [w] ∧ z.taken = n + 1 := by
  obtain ⟨h1, h2, h3, h4⟩ := h
  have he : endC s.on 13 = (s.on.shut, 3) := by unfold endC; rw [if_neg (fun h => by have := h.1; revert this; decide), if_pos rfl]
  have hn : nextC s.on 13 = (s.on.shut, 3) := by
    rcases h1 with h1 | h1 | ⟨h1, hz⟩
    · rw [nx1 h1, may_no (by decide), if_neg (by decide), he]
    · rw [nx2 h1, he]
    · rw [nx13 h1, if_pos hz, he]
  refine ⟨_, Run.one hn (by decide), rfl, ?_, ?_⟩
  · show s.words ++ [s.word] = _; rw [h2, h3]
  · show s.taken + 1 = _; rw [h4]
theorem join_run : ∀ (ws : List (List UInt8)) (W : List (List UInt8)) (n : Int) (s : Cs), 0 ≤ n → ws ≠ [] → AtWord W n s → W.length + ws.length ≤ 12 → n + (joinT ws).length + 2 ≤ 300 →
    ∃ z V v, Run s (joinT ws) z ∧ EndAble V v (n + (joinT ws).length) z ∧ V ++ [v] = W ++ ws := by
  intro ws
  induction ws with
  | nil => intro W n s _ h; exact absurd rfl h
  | cons w r ih =>
    intro W n s h0 _ hs hl hfit
    cases r with
    | nil =>
      obtain ⟨z, h1, h2⟩ := word_run h0 hs hfit
      exact ⟨z, W, w, h1, h2, rfl⟩
    | cons v r =>
      have hlen : (joinT (w :: v :: r)).length = (wordT w).length + 1 + (joinT (v :: r)).length := by rw [joinT]; simp only [List.length_append, List.length_cons]; omega
      obtain ⟨y, h1, h2⟩ := word_run (w := w) h0 hs (by omega)
      obtain ⟨x, h3, h4⟩ := end_blank h2 (by simp only [List.length_cons] at hl; omega)
      obtain ⟨z, V, u, h5, h6, h7⟩ := ih (W ++ [w]) _ x (by omega) (by simp) h4 (by simp only [List.length_cons, List.length_append, List.length_nil] at hl ⊢; omega) (by omega)
      refine ⟨z, V, u, ?_, ?_, ?_⟩
      · rw [joinT]; exact Run.append _ h1 (Run.append [32] h3 h5)
      · rw [hlen, show n + (((wordT w).length + 1 + (joinT (v :: r)).length : Nat) : Int) = n + (wordT w).length + 1 + (joinT (v :: r)).length by omega]; exact h6
      · rw [h7]; simp
/-- What a right command's text is. -/
theorem cmdV_yes {ws : List (List UInt8)} (h : (cmdV ws).2 = true) : ws ≠ [] ∧ ws.length ≤ 12 ∧ (joinT ws).length + 2 ≤ 300 ∧ (cmdV ws).1 = joinT ws ++ [13, 10] := by
  unfold cmdV at h ⊢
  cases h1 : inI (ws.length : Int) 1 12 with
  | false => rw [h1] at h; cases h
  | true =>
    rw [h1] at h
    have := inI_iff.1 h1
    by_cases h2 : (joinT ws).length + 2 ≤ 300
    · rw [if_pos h2]
      exact ⟨by rintro rfl; simp at this, by omega, h2, rfl⟩
    · rw [if_pos rfl, if_neg h2] at h; cases h
theorem at_nil : AtWord [] 0 csNil := ⟨rfl, rfl, rfl⟩
theorem line_run {ws : List (List UInt8)} (h : (cmdV ws).2 = true) : ∃ z, Run csNil (joinT ws ++ [13]) z ∧ z.st = 3 ∧ z.words = ws ∧ z.taken = ((joinT ws).length : Int) + 1 := by
  obtain ⟨h1, h2, h3, h4⟩ := cmdV_yes h
  obtain ⟨z, V, v, a, b, c⟩ := join_run ws [] 0 csNil (Int.le_refl _) h1 at_nil (by simpa using h2) (by omega)
  obtain ⟨y, d, e, f, g⟩ := end_line b
  exact ⟨y, Run.append _ a d, e, f.trans (c.trans (by simp)), by rw [g]; omega⟩
/-- A text that was written is read back, whatever stands behind it. -/
theorem rdV_back {ws : List (List UInt8)} (h : (cmdV ws).2 = true) (r : List UInt8) : rdV ((cmdV ws).1 ++ r) = (ws, ((cmdV ws).1.length : Int), 0) := by
  obtain ⟨h1, h2, h3, h4⟩ := cmdV_yes h
  obtain ⟨z, a, b, c, d⟩ := line_run h
  have hn : nextC z.on 10 = (z.on, 14) := by rw [nx3 b, if_pos rfl]
  have hs : stepC z 10 = z.on.to 14 := by show (nextC z.on 10).1.to (nextC z.on 10).2 = _; rw [hn]
  have ht : ((cmdV ws).1 ++ r).take 300 = (joinT ws ++ [13]) ++ (10 :: r.take (300 - (joinT ws).length - 2)) := by
    rw [h4, List.take_append, List.take_of_length_le (by simp; omega)]
    simp only [List.length_append, List.length_cons, List.length_nil]
    rw [show 300 - ((joinT ws).length + (0 + 1 + 1)) = 300 - (joinT ws).length - 2 by omega]
    simp
  have hr : runC csNil (((cmdV ws).1 ++ r).take 300) = z.on.to 14 := by
    rw [ht, Run.runC _ _ a, runC_cons, hs]; rfl
  rw [rdV_all hr rfl]
  refine Prod.ext ?_ (Prod.ext ?_ rfl)
  · exact c
  · show z.taken + 1 = _; rw [d, h4]; simp; omega
theorem rdV_same {ws : List (List UInt8)} (h : (cmdV ws).2 = true) : rdV (cmdV ws).1 = (ws, ((cmdV ws).1.length : Int), 0) := by
  have := rdV_back h []
  rwa [List.append_nil] at this
/-- Of a text that is cut more is wanted. -/
theorem rdV_cut {ws : List (List UInt8)} (h : (cmdV ws).2 = true) (k : Nat) (hk : k < (cmdV ws).1.length) : rdV ((cmdV ws).1.take k) = ([], 0, 1) := by
  obtain ⟨h1, h2, h3, h4⟩ := cmdV_yes h
  obtain ⟨z, a, b, c, d⟩ := line_run h
  have hl : (cmdV ws).1.length = (joinT ws).length + 2 := by rw [h4]; simp
  have ht : (cmdV ws).1.take k = (joinT ws ++ [13]).take k := by
    rw [h4, show joinT ws ++ [13, 10] = (joinT ws ++ [13]) ++ [10] by simp, List.take_append_of_le_length (by simp; omega)]
  obtain ⟨y, e, f⟩ := Run.take _ k a
  have hkl : ((cmdV ws).1.take k).length ≤ k := List.length_take_le _ _
  have hr : runC csNil (((cmdV ws).1.take k).take 300) = y := by
    rw [List.take_of_length_le (by omega), ht]
    have := Run.runC _ [] e
    rw [List.append_nil] at this
    rw [this]; rfl
  exact rdV_more hr (by rcases f with f | rfl; exact f; decide) (by omega)
end Go.Proofs.YtjaohlnejkgkaaaGreatDoor.Plain
