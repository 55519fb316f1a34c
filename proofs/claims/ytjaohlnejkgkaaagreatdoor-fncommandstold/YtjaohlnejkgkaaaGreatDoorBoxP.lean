/- Several texts in one: BoxPlain, FlagsPlain8, UidSetPlain. Made by fuse_tl.py. -/
import Derived.Test.YtjaohlnejkgkaaaGreatDoorBoxA
import Derived.Test.YtjaohlnejkgkaaaGreatDoorPlainA
/- Boxes, plainly: when one is right. Nothing of the program stands here but how a box is written down. -/
namespace Go.Proofs.YtjaohlnejkgkaaaGreatDoor.Plain
open Go.RowKit
set_option linter.unusedVariables false

def inI (x l m : Int) : Bool := decide (l ≤ x) && decide (x ≤ m)
theorem inI_iff {x l m : Int} : inI x l m = true ↔ l ≤ x ∧ x ≤ m := by unfold inI; rw [Bool.and_eq_true, decide_eq_true_eq, decide_eq_true_eq]
def nameOkL (l : List UInt8) : Bool := l.all (fun c => decide (97 ≤ c.toNat) && decide (c.toNat ≤ 122)) && inI (l.length : Int) 1 8
def hasUid (l : List Ml) (u : Int) : Bool := l.any (fun m => m.uid == u)
def headOk (b : Bx) : Bool := nameOkL b.name.data.toList && (inI b.valid 1 9999 && (inI b.next 1 9999 && (inI b.mod 1 100000 && (decide (b.mails.length ≤ 30) && (decide (b.tombs.length ≤ 40) && inI b.hor 0 b.mod)))))
/-- A mail at its place. -/
def mailRight (b : Bx) (p : Option Ml) (m : Ml) : Bool :=
  inI m.uid 1 (b.next - 1) && ((match p with | none => true | some q => decide (q.uid < m.uid)) && (flOk m.flags && (inI m.mod 1 b.mod && mailOkL m.text.data.toList)))
def before {α : Type} (l : List α) (i : Nat) : Option α := match i with | 0 => none | j + 1 => l[j]?
def mailAt (b : Bx) (i : Nat) : Bool := match b.mails[i]? with | none => true | some m => mailRight b (before b.mails i) m
/-- One that is gone, at its place. -/
def tombLess (p t : Tb) : Bool := decide (p.mod < t.mod) || (decide (p.mod = t.mod) && decide (p.uid < t.uid))
def tombRight (b : Bx) (ps : List Tb) (p : Option Tb) (t : Tb) : Bool :=
  inI t.uid 1 (b.next - 1) && (decide (b.hor < t.mod) && (decide (t.mod ≤ b.mod) && (!hasUid b.mails t.uid && (ps.all (fun q => !(q.uid == t.uid)) && (match p with | none => true | some q => tombLess q t)))))
def tombAt (b : Bx) (i : Nat) : Bool := match b.tombs[i]? with | none => true | some t => tombRight b (b.tombs.take i) (before b.tombs i) t
def mailsOk (b : Bx) : Bool := (List.range b.mails.length).all (mailAt b)
def tombsOk (b : Bx) : Bool := (List.range b.tombs.length).all (tombAt b)
def boxOk (b : Bx) : Bool := headOk b && (mailsOk b && tombsOk b)
theorem mailAt_is {b : Bx} {i : Nat} {m : Ml} (h : b.mails[i]? = some m) : mailAt b i = mailRight b (before b.mails i) m := by unfold mailAt; rw [h]
theorem tombAt_is {b : Bx} {i : Nat} {t : Tb} (h : b.tombs[i]? = some t) : tombAt b i = tombRight b (b.tombs.take i) (before b.tombs i) t := by unfold tombAt; rw [h]
theorem boxOk_head {b : Bx} (h : headOk b = false) : boxOk b = false := by unfold boxOk; rw [h]; rfl
theorem boxOk_mail {b : Bx} {i : Nat} (hi : i < b.mails.length) (h : mailAt b i = false) : boxOk b = false := by
  have : mailsOk b = false := by
    unfold mailsOk
    rw [List.all_eq_false]
    exact ⟨i, by simpa using hi, by rw [h]; decide⟩
  unfold boxOk
  rw [this, Bool.false_and, Bool.and_false]
theorem boxOk_tomb {b : Bx} {i : Nat} (hi : i < b.tombs.length) (h : tombAt b i = false) : boxOk b = false := by
  have : tombsOk b = false := by
    unfold tombsOk
    rw [List.all_eq_false]
    exact ⟨i, by simpa using hi, by rw [h]; decide⟩
  unfold boxOk
  rw [this, Bool.and_false, Bool.and_false]
theorem boxOk_all {b : Bx} (h0 : headOk b = true) (h1 : ∀ i, i < b.mails.length → mailAt b i = true) (h2 : ∀ i, i < b.tombs.length → tombAt b i = true) : boxOk b = true := by
  unfold boxOk mailsOk tombsOk
  rw [h0, List.all_eq_true.2 (fun i hi => h1 i (by simpa using hi)), List.all_eq_true.2 (fun i hi => h2 i (by simpa using hi))]
  rfl
theorem boxOk_iff {b : Bx} : boxOk b = true ↔ headOk b = true ∧ (∀ i, i < b.mails.length → mailAt b i = true) ∧ (∀ i, i < b.tombs.length → tombAt b i = true) := by
  constructor
  · intro h
    unfold boxOk mailsOk tombsOk at h
    rw [Bool.and_eq_true, Bool.and_eq_true, List.all_eq_true, List.all_eq_true] at h
    exact ⟨h.1, fun i hi => h.2.1 i (by simpa using hi), fun i hi => h.2.2 i (by simpa using hi)⟩
  · exact fun h => boxOk_all h.1 h.2.1 h.2.2
/-- Not too long to be looked at. -/
structure FitBx (b : Bx) : Prop where
  name : b.name.size ≤ 1048576
  mails : b.mails.length ≤ 4000000
  texts : ∀ m ∈ b.mails, m.text.size ≤ 1048576
  tombs : b.tombs.length ≤ 4000000
theorem SmallBx.fit {b : Bx} (h : SmallBx 1048576 b) : FitBx b := ⟨h.1, Nat.le_trans h.2.1.1 (by decide), h.2.1.2, Nat.le_trans h.2.2 (by decide)⟩
end Go.Proofs.YtjaohlnejkgkaaaGreatDoor.Plain

/- Boxes, plainly: flags of those that are told change. Nothing of the program stands here. -/
namespace Go.Proofs.YtjaohlnejkgkaaaGreatDoor.Plain
open Go.RowKit
set_option linter.unusedVariables false

/-- What is under way: the mails so far, the box's count, those that changed, those that are too late. -/
structure Fg where
  ms : List Ml
  md : Int
  done : List Rg
  late : List Rg
def addU (s : List Rg) (u : Int) : List Rg := (putV s u u true).1
def fgStep (b : Bx) (s : List Rg) (how bits since : Int) (x : Fg) (m : Ml) : Fg :=
  if hasB s m.uid = false then { x with ms := x.ms ++ [m] }
  else if 0 ≤ since ∧ since < m.mod then { x with ms := x.ms ++ [m], late := addU x.late m.uid }
  else if afterV m.flags how bits = m.flags then { x with ms := x.ms ++ [m] }
  else { x with ms := x.ms ++ [⟨m.uid, afterV m.flags how bits, b.mod + 1, m.text⟩], md := b.mod + 1, done := addU x.done m.uid }
def fgTo (b : Bx) (s : List Rg) (how bits since : Int) (k : Nat) : Fg := (b.mails.take k).foldl (fgStep b s how bits since) ⟨[], b.mod, [], []⟩
def fgOf (b : Bx) (s : List Rg) (how bits since : Int) : Fg := b.mails.foldl (fgStep b s how bits since) ⟨[], b.mod, [], []⟩
def fgBox (b : Bx) (x : Fg) : Bx := { b with mod := x.md, mails := x.ms }
def fgOk (b : Bx) (s : List Rg) (how bits : Int) : Bool := boxOk b && (okS s && (inI how 1 3 && flOk bits))
def flagsV (b : Bx) (s : List Rg) (how bits since : Int) : Bx × List Rg × List Rg :=
  if fgOk b s how bits = true ∧ boxOk (fgBox b (fgOf b s how bits since)) = true then (fgBox b (fgOf b s how bits since), (fgOf b s how bits since).done, (fgOf b s how bits since).late) else (b, [], [])
theorem flagsV_no1 {b : Bx} {s : List Rg} {how bits since : Int} (h : fgOk b s how bits = false) : flagsV b s how bits since = (b, [], []) := if_neg (fun x => by rw [h] at x; cases x.1)
theorem flagsV_no2 {b : Bx} {s : List Rg} {how bits since : Int} (h : boxOk (fgBox b (fgOf b s how bits since)) = false) : flagsV b s how bits since = (b, [], []) := if_neg (fun x => by rw [h] at x; cases x.2)
theorem flagsV_yes {b : Bx} {s : List Rg} {how bits since : Int} (h1 : fgOk b s how bits = true) (h2 : boxOk (fgBox b (fgOf b s how bits since)) = true) : flagsV b s how bits since = (fgBox b (fgOf b s how bits since), (fgOf b s how bits since).done, (fgOf b s how bits since).late) := if_pos ⟨h1, h2⟩
theorem fg_all (b : Bx) (s : List Rg) (how bits since : Int) : fgTo b s how bits since b.mails.length = fgOf b s how bits since := by unfold fgTo fgOf; rw [List.take_length]
theorem fg_next {b : Bx} {s : List Rg} {how bits since : Int} {k : Nat} {m : Ml} (h : b.mails[k]? = some m) : fgTo b s how bits since (k + 1) = fgStep b s how bits since (fgTo b s how bits since k) m := by
  unfold fgTo
  rw [List.take_add_one, h, List.foldl_append]
  rfl
theorem addU_small {s : List Rg} (u : Int) (h : s.length ≤ 40) : (addU s u).length ≤ 40 := by
  unfold addU putV
  split
  · split
    · assumption
    · exact h
  · exact h
theorem fg_len (b : Bx) (s : List Rg) (how bits since : Int) : ∀ k, k ≤ b.mails.length → (fgTo b s how bits since k).ms.length = k ∧ (fgTo b s how bits since k).done.length ≤ 40 ∧ (fgTo b s how bits since k).late.length ≤ 40 := by
  intro k
  induction k with
  | zero => intro _; exact ⟨rfl, Nat.zero_le _, Nat.zero_le _⟩
  | succ k ih =>
    intro hk
    obtain ⟨i1, i2, i3⟩ := ih (by omega)
    rw [fg_next (List.getElem?_eq_getElem (show k < b.mails.length by omega))]
    unfold fgStep
    split
    · exact ⟨by simp [i1], i2, i3⟩
    · split
      · exact ⟨by simp [i1], i2, addU_small _ i3⟩
      · split
        · exact ⟨by simp [i1], i2, i3⟩
        · exact ⟨by simp [i1], addU_small _ i2, i3⟩
/-- The row under way: what is done, and what is not yet. -/
def fgRow (b : Bx) (x : Fg) (k : Nat) : List Ml := x.ms ++ b.mails.drop k
theorem fgRow_len {b : Bx} {x : Fg} {k : Nat} (h : x.ms.length = k) (hk : k ≤ b.mails.length) : (fgRow b x k).length = b.mails.length := by unfold fgRow; simp [h]; omega
theorem fgRow_at {b : Bx} {x : Fg} {k : Nat} {m : Ml} (h : x.ms.length = k) (hm : b.mails[k]? = some m) : (fgRow b x k)[k]? = some m := by
  unfold fgRow
  rw [List.getElem?_append_right (by omega), h, Nat.sub_self, List.getElem?_drop, Nat.add_zero]
  exact hm
theorem fgRow_set {b : Bx} {x : Fg} {k : Nat} {m : Ml} (n : Ml) (h : x.ms.length = k) (hm : b.mails[k]? = some m) : (fgRow b x k).set k n = x.ms ++ [n] ++ b.mails.drop (k + 1) := by
  have hk : k < b.mails.length := (List.getElem?_eq_some_iff.1 hm).1
  unfold fgRow
  rw [List.set_append_right _ _ (by omega), h, Nat.sub_self, List.drop_eq_getElem_cons hk, List.set_cons_zero]
  simp
theorem fgRow_same {b : Bx} {x : Fg} {k : Nat} {m : Ml} (h : x.ms.length = k) (hm : b.mails[k]? = some m) : fgRow b x k = x.ms ++ [m] ++ b.mails.drop (k + 1) := by
  have hk : k < b.mails.length := (List.getElem?_eq_some_iff.1 hm).1
  have e : b.mails[k] = m := (List.getElem?_eq_some_iff.1 hm).2
  unfold fgRow
  rw [List.drop_eq_getElem_cons hk, e]
  simp
theorem fgRow_all {b : Bx} {x : Fg} : fgRow b x b.mails.length = x.ms := by unfold fgRow; simp
end Go.Proofs.YtjaohlnejkgkaaaGreatDoor.Plain

/- Sets of Uids, plainly: one after the other added, or all united. Nothing of the program stands here. -/
namespace Go.Proofs.YtjaohlnejkgkaaaGreatDoor.Plain
open Go.RowKit
set_option linter.unusedVariables false

def oneR (u : Int) : Rg := ⟨u, u⟩
def uidsV (l : List Int) : List Rg := l.foldl addU []
theorem uidsV_snoc (l : List Int) (u : Int) : uidsV (l ++ [u]) = addU (uidsV l) u := by unfold uidsV; rw [List.foldl_append]; rfl
theorem addU_step {s : List Rg} {u : Int} (h : okS s = true) (hl : s.length ≤ 39) (h1 : 1 ≤ u) (h2 : u ≤ 9999) : okS (addU s u) = true ∧ (addU s u).length ≤ s.length + 1 ∧ ∀ n, hasB (addU s u) n = (decide (n = u) || hasB s n) := by
  obtain ⟨e1, e2, e3⟩ := put_room (c := true) h hl h1 (Int.le_refl u) h2
  have e4 := put_added (s := s) (lo := u) (hi := u) ⟨h, h1, Int.le_refl u, h2⟩
  have ea : addU s u = setOf (putB s u u true) := by unfold addU; rw [e1]
  have eb : addU s u = addedL s u u := by
    rw [ea]
    rw [e1] at e4
    split at e4
    · exact (Prod.mk.inj e4).1
    · exact absurd (Prod.mk.inj e4).2 (by decide)
  refine ⟨by rw [ea]; exact e2, by rw [ea]; exact e3, fun n => ?_⟩
  rw [eb, added_has (okS_from h) (Int.le_refl u)]
  by_cases e : n = u
  · subst e; simp
  · rw [decide_eq_false e, Bool.false_or]
    have : ¬ (u ≤ n ∧ n ≤ u) := by omega
    simp [this]
theorem uidsV_inv : ∀ (k : Nat) (l : List Int), l.length = k → k ≤ 40 → (∀ u ∈ l, 1 ≤ u ∧ u ≤ 9999) → okS (uidsV l) = true ∧ (uidsV l).length ≤ l.length ∧ ∀ n, hasB (uidsV l) n = decide (n ∈ l) := by
  intro k
  induction k with
  | zero =>
    intro l hl _ _
    have : l = [] := List.length_eq_zero_iff.1 hl
    subst this
    exact ⟨rfl, Nat.zero_le _, fun n => by simp [uidsV, hasB]⟩
  | succ k ih =>
    intro l hl hk hu
    obtain ⟨l', u, rfl⟩ : ∃ l' u, l = l' ++ [u] := by
      rcases List.eq_nil_or_concat l with h | ⟨a, b, h⟩
      · subst h; simp at hl
      · exact ⟨a, b, by simpa using h⟩
    have hl' : l'.length = k := by simpa using hl
    obtain ⟨i1, i2, i3⟩ := ih l' hl' (by omega) (fun x hx => hu x (by simp [hx]))
    have hu1 := hu u (by simp)
    obtain ⟨s1, s2, s3⟩ := addU_step i1 (by omega) hu1.1 hu1.2
    rw [uidsV_snoc]
    refine ⟨s1, by simp; omega, fun n => ?_⟩
    rw [s3, i3, Bool.eq_iff_iff]
    simp [or_comm]
theorem has_ones (l : List Int) (n : Int) : hasB (l.map oneR) n = decide (n ∈ l) := by
  unfold hasB
  rw [List.any_map, Bool.eq_iff_iff, List.any_eq_true, decide_eq_true_eq]
  constructor
  · rintro ⟨u, hu, h⟩
    have h1 : (decide (u ≤ n) && decide (n ≤ u)) = true := h
    rw [Bool.and_eq_true] at h1
    have h3 := of_decide_eq_true h1.1
    have h4 := of_decide_eq_true h1.2
    have : n = u := by omega
    rw [this]; exact hu
  · intro h
    exact ⟨n, h, by simp [oneR]⟩
/-- All of them united, in whatever order, are what one gets who adds one after the other. -/
theorem united_uids {l : List Int} {t : List Rg} (hl : l.length ≤ 40) (hu : ∀ u ∈ l, 1 ≤ u ∧ u ≤ 9999) (hp : t.Perm (l.map oneR)) (hs : t.Pairwise (fun x y => x.lo ≤ y.lo)) : unitedL t = uidsV l := by
  obtain ⟨i1, i2, i3⟩ := uidsV_inv l.length l rfl hl hu
  have hr : ∀ r ∈ t, rightR r := fun r hr => by
    obtain ⟨u, hu', rfl⟩ := List.mem_map.1 (hp.mem_iff.1 hr)
    have := hu u hu'
    exact ⟨this.1, Int.le_refl _, this.2⟩
  obtain ⟨u1, u2⟩ := united_ok hr hs
  exact set_unique _ _ _ _ u1 (okS_from i1) (fun n => by rw [u2, hasB_perm hp, has_ones, i3])
end Go.Proofs.YtjaohlnejkgkaaaGreatDoor.Plain
