/- Several texts in one: BoxPlain, FlagsPlain8, UidSetPlain. Made by fuse_tl.py. -/
import Derived.Test.YtihdgfihdecalaaGreatDoorBoxA
import Derived.Test.YtihdgfihdecalaaGreatDoorPlainA
/- Boxes, plainly: when one is right. Nothing of the program stands here but how a box is written down. -/
namespace Go.Proofs.YtihdgfihdecalaaGreatDoor.Plain
open Go.RowKit
set_option linter.unusedVariables false

def inI (x l m : Int) : Bool := decide (l ≤ x) && decide (x ≤ m)
theorem inI_iff {x l m : Int} : inI x l m = true ↔ l ≤ x ∧ x ≤ m := by unfold inI; rw [Bool.and_eq_true, decide_eq_true_eq, decide_eq_true_eq]
def nameOkL (l : List UInt8) : Bool := l.all (fun c => decide (97 ≤ c.toNat) && decide (c.toNat ≤ 122)) && inI (l.length : Int) 1 8
def hasUid (l : List Ml) (u : Int) : Bool := l.any (fun m => m.uid == u)
def headOk (b : Bx) : Bool := nameOkL b.name.data.toList && (inI b.valid 1 9999 && (inI b.next 1 9999 && (inI b.mod 1 100000 && (decide (b.mails.length ≤ 30) && (decide (b.tombs.length ≤ 40) && inI b.hor 0 b.mod)))))
/-- A mail at its place. -/
def mailRight (b : Bx) (p : Option Ml) (m : Ml) : Bool :=
  inI m.uid 1 (b.next - 1) && ((match p with | none => true | some q => decide (q.uid < m.uid)) && (flOk m.flags && (inI m.mod 1 b.mod && mailOkL m.text.data.toList)))
def before {α : Type} (l : List α) (i : Nat) : Option α := match i with | 0 => none | j + 1 => l[j]?
def mailAt (b : Bx) (i : Nat) : Bool := match b.mails[i]? with | none => true | some m => mailRight b (before b.mails i) m
/-- One that is gone, at its place. -/
def tombLess (p t : Tb) : Bool := decide (p.mod < t.mod) || (decide (p.mod = t.mod) && decide (p.uid < t.uid))
def tombRight (b : Bx) (ps : List Tb) (p : Option Tb) (t : Tb) : Bool :=
  inI t.uid 1 (b.next - 1) && (decide (b.hor < t.mod) && (decide (t.mod ≤ b.mod) && (!hasUid b.mails t.uid && (ps.all (fun q => !(q.uid == t.uid)) && (match p with | none => true | some q => tombLess q t)))))
def tombAt (b : Bx) (i : Nat) : Bool := match b.tombs[i]? with | none => true | some t => tombRight b (b.tombs.take i) (before b.tombs i) t
def mailsOk (b : Bx) : Bool := (List.range b.mails.length).all (mailAt b)
def tombsOk (b : Bx) : Bool := (List.range b.tombs.length).all (tombAt b)
def boxOk (b : Bx) : Bool := headOk b && (mailsOk b && tombsOk b)
theorem mailAt_is {b : Bx} {i : Nat} {m : Ml} (h : b.mails[i]? = some m) : mailAt b i = mailRight b (before b.mails i) m := by unfold mailAt; rw [h]
theorem tombAt_is {b : Bx} {i : Nat} {t : Tb} (h : b.tombs[i]? = some t) : tombAt b i = tombRight b (b.tombs.take i) (before b.tombs i) t := by unfold tombAt; rw [h]
theorem boxOk_head {b : Bx} (h : headOk b = false) : boxOk b = false := by unfold boxOk; rw [h]; rfl
theorem boxOk_mail {b : Bx} {i : Nat} (hi : i < b.mails.length) (h : mailAt b i = false) : boxOk b = false := by
  have : mailsOk b = false := by
    unfold mailsOk
    rw [List.all_eq_false]
    exact ⟨i, by simpa using hi, by rw [h]; decide⟩
  unfold boxOk
  rw [this, Bool.false_and, Bool.and_false]
theorem boxOk_tomb {b : Bx} {i : Nat} (hi : i < b.tombs.length) (h : tombAt b i = false) : boxOk b = false := by
  have : tombsOk b = false := by
    unfold tombsOk
    rw [List.all_eq_false]
    exact ⟨i, by simpa using hi, by rw [h]; decide⟩
  unfold boxOk
  rw [this, Bool.and_false, Bool.and_false]
theorem boxOk_all {b : Bx} (h0 : headOk b = true) (h1 : ∀ i, i < b.mails.length → mailAt b i = true) (h2 : ∀ i, i < b.tombs.length → tombAt b i = true) : boxOk b = true := by
  unfold boxOk mailsOk tombsOk
  rw [h0, List.all_eq_true.2 (fun i hi => h1 i (by simpa using hi)), List.all_eq_true.2 (fun i hi => h2 i (by simpa using hi))]
  rfl
theorem boxOk_iff {b : Bx} : boxOk b = true ↔ headOk b = true ∧ (∀ i, i < b.mails.length → mailAt b i = true) ∧ (∀ i, i < b.tombs.length → tombAt b i = true) := by
  constructor
  · intro h
    unfold boxOk mailsOk tombsOk at h
    rw [Bool.and_eq_true, Bool.and_eq_true, List.all_eq_true, List.all_eq_true] at h
    exact ⟨h.1, fun i hi => h.2.1 i (by simpa using hi), fun i hi => h.2.2 i (by simpa using hi)⟩
  · exact fun h => boxOk_all h.1 h.2.1 h.2.2
/-- Not too long to be looked at. -/
structure FitBx (b : Bx) : Prop where
  name : b.name.size ≤ 1048576
  mails : b.mails.length ≤ 4000000
  texts : ∀ m ∈ b.mails, m.text.size ≤ 1048576
  tombs : b.tombs.length ≤ 4000000
theorem SmallBx.fit {b : Bx} (h : SmallBx 1048576 b) : FitBx b := ⟨h.1, Nat.le_trans h.2.1.1 (by decide), h.2.1.2, Nat.le_trans h.2.2 (by decide)⟩
end Go.Proofs.YtihdgfihdecalaaGreatDoor.Plain

/- Boxes, plainly: flags of those that are told change. Nothing of the program stands here. -/
namespace Go.Proofs.YtihdgfihdecalaaGreatDoor.Plain
open Go.RowKit
set_option linter.unusedVariables false

end Go.Proofs.YtihdgfihdecalaaGreatDoor.Plain

/- Sets of Uids, plainly: one after the other added, or all united. Nothing of the program stands here. -/
namespace Go.Proofs.YtihdgfihdecalaaGreatDoor.Plain
open Go.RowKit
set_option linter.unusedVariables false

end Go.Proofs.YtihdgfihdecalaaGreatDoor.Plain
