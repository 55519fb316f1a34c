/- Plain facts on the parts of a line. Nothing of the program stands here. -/
import Derived.Test.YtnhaljmijonndakDoorReadPlain
import Derived.Test.YtnhaljmijonndakDoorStrPlain
import Derived.Lib.Fields
namespace Go.Proofs.YtnhaljmijonndakDoor.Plain
open Go.RowKit

def prB (x : Nat) : Bool := decide (32 ≤ x ∧ x ≤ 126)
theorem prB_iff (x : Nat) : prB x = true ↔ 32 ≤ x ∧ x ≤ 126 := by simp [prB]
theorem prB_not (x : Nat) : prB x = false ↔ ¬ (32 ≤ x ∧ x ≤ 126) := by simp only [prB, decide_eq_false_iff_not]

theorem sp_yes {c : UInt8} (h : c.toNat = 32) : Lib.isSp c = true := by
  have : c = 32 := UInt8.toNat_inj.1 h
  subst this; rfl
theorem sp_no {c : UInt8} (hp : prB c.toNat = true) (h : c.toNat ≠ 32) : Lib.isSp c = false := by
  rw [prB_iff] at hp
  have e : ∀ d : UInt8, c.toNat ≠ d.toNat → (c == d) = false := fun d hd => by
    rw [beq_eq_false_iff_ne]; intro x; exact hd (by rw [x])
  unfold Lib.isSp
  rw [e 9 (by show c.toNat ≠ 9; omega), e 10 (by show c.toNat ≠ 10; omega), e 11 (by show c.toNat ≠ 11; omega), e 12 (by show c.toNat ≠ 12; omega), e 13 (by show c.toNat ≠ 13; omega), e 32 (by show c.toNat ≠ 32; exact h)]
  rfl

def okP (l : List UInt8) : Bool := decide (l.length ≤ 600) && l.all (fun b => prB b.toNat) && decide ((Lib.fields l).length ≤ 10)
def partsL (l : List UInt8) : List (List UInt8) := if okP l = true then Lib.fields l else []

theorem ok_long {l : List UInt8} (h : 600 < l.length) : okP l = false := by
  unfold okP; rw [decide_eq_false (by omega)]; rfl
theorem ok_bad {l : List UInt8} {k : Nat} {c : UInt8} (hb : l[k]? = some c) (h : prB c.toNat = false) : okP l = false := by
  unfold okP
  have : (l.all fun b => prB b.toNat) = false := by
    rw [← Bool.not_eq_true, List.all_eq_true]
    intro hh
    rw [hh c (List.mem_of_getElem? hb)] at h; cases h
  rw [this]; simp
/-- All bytes below k are fit to print. -/
def Prs (l : List UInt8) (k : Nat) : Prop := ∀ i c, i < k → l[i]? = some c → prB c.toNat = true
theorem Prs.zero (l : List UInt8) : Prs l 0 := fun i c h => by omega
theorem Prs.succ {l : List UInt8} {k : Nat} {c : UInt8} (h : Prs l k) (hc : l[k]? = some c) (hp : prB c.toNat = true) : Prs l (k + 1) := fun i d hi hd => by
  by_cases e : i = k
  · subst e; rw [hc] at hd; cases hd; exact hp
  · exact h i d (by omega) hd
theorem ok_all {l : List UInt8} {k : Nat} (h : Prs l k) (hk : l.length ≤ k) (h6 : l.length ≤ 600) : okP l = decide ((Lib.fields l).length ≤ 10) := by
  unfold okP
  have : (l.all fun b => prB b.toNat) = true := by
    rw [List.all_eq_true]
    intro b hb
    obtain ⟨i, hi, rfl⟩ := List.getElem_of_mem hb
    exact h i _ (by omega) (List.getElem?_eq_getElem hi)
  rw [this, decide_eq_true h6]; simp
theorem parts_yes {l : List UInt8} (h : okP l = true) : partsL l = Lib.fields l := if_pos h
theorem parts_no {l : List UInt8} (h : okP l = false) : partsL l = [] := if_neg (by rw [h]; simp)

theorem parts_len (l : List UInt8) : (partsL l).length ≤ 10 := by
  unfold partsL
  split
  · rename_i h
    unfold okP at h
    simp at h
    exact h.2
  · simp
/-- Behind some rounds: the parts so far; the part that is being read begins at b. -/
def PInv (l : List UInt8) (i b : Nat) (done : List (List UInt8)) : Prop :=
  b ≤ i ∧ i ≤ l.length ∧ done.length ≤ i ∧ Lib.fields l = done ++ Lib.fieldsGo (seg l b i) (l.drop i)
theorem PInv.start (l : List UInt8) : PInv l 0 0 [] := ⟨Nat.le_refl _, Nat.zero_le _, by simp, by rw [seg_same]; simp [Lib.fields]⟩
theorem PInv.char {l : List UInt8} {i b : Nat} {done : List (List UInt8)} {c : UInt8} (h : PInv l i b done) (hc : l[i]? = some c) (hp : prB c.toNat = true) (hn : c.toNat ≠ 32) : PInv l (i + 1) b done := by
  obtain ⟨h1, h2, h3, h4⟩ := h
  have hi : i < l.length := (List.getElem?_eq_some_iff.1 hc).1
  refine ⟨by omega, by omega, by omega, ?_⟩
  rw [h4, drop_eq hc, Lib.fieldsGo, sp_no hp hn, seg_succ h1 hc]; rfl
theorem seg_empty {l : List UInt8} {b i : Nat} (h1 : b ≤ i) (h2 : i ≤ l.length) : (seg l b i).isEmpty = decide (b = i) := by
  have hl := seg_length (A := b) h2
  by_cases e : b = i
  · subst e; rw [seg_same]; simp
  · rw [decide_eq_false e]
    cases hs : seg l b i with
    | nil => rw [hs] at hl; simp at hl; omega
    | cons _ _ => rfl
theorem PInv.blank {l : List UInt8} {i b : Nat} {done : List (List UInt8)} {c : UInt8} (h : PInv l i b done) (hc : l[i]? = some c) (hn : c.toNat = 32) (hb : b < i) : PInv l (i + 1) (i + 1) (done ++ [seg l b i]) := by
  obtain ⟨h1, h2, h3, h4⟩ := h
  have hi : i < l.length := (List.getElem?_eq_some_iff.1 hc).1
  refine ⟨by omega, by omega, by simp; omega, ?_⟩
  rw [h4, drop_eq hc, Lib.fieldsGo, sp_yes hn, seg_empty h1 h2, decide_eq_false (by omega), seg_same]; simp
theorem PInv.blank0 {l : List UInt8} {i b : Nat} {done : List (List UInt8)} {c : UInt8} (h : PInv l i b done) (hc : l[i]? = some c) (hn : c.toNat = 32) (hb : ¬ b < i) : PInv l (i + 1) (i + 1) done := by
  obtain ⟨h1, h2, h3, h4⟩ := h
  have hi : i < l.length := (List.getElem?_eq_some_iff.1 hc).1
  refine ⟨by omega, by omega, by omega, ?_⟩
  rw [h4, drop_eq hc, Lib.fieldsGo, sp_yes hn, seg_empty h1 h2, decide_eq_true (by omega), seg_same]; simp
theorem PInv.last {l : List UInt8} {i b : Nat} {done : List (List UInt8)} (h : PInv l i b done) (hi : i = l.length) (hb : b < i) : done ++ [seg l b i] = Lib.fields l := by
  obtain ⟨h1, h2, h3, h4⟩ := h
  rw [h4, List.drop_of_length_le (by omega), Lib.fieldsGo, seg_empty h1 h2, decide_eq_false (by omega)]; simp
theorem PInv.last0 {l : List UInt8} {i b : Nat} {done : List (List UInt8)} (h : PInv l i b done) (hi : i = l.length) (hb : ¬ b < i) : done = Lib.fields l := by
  obtain ⟨h1, h2, h3, h4⟩ := h
  rw [h4, List.drop_of_length_le (by omega), Lib.fieldsGo, seg_empty h1 h2, decide_eq_true (by omega)]; simp
theorem ext_eq (s : ByteArray) (A k : Nat) : s.extract A k = ⟨(seg s.data.toList A k).toArray⟩ := by
  have h := ext_seg s A k
  rw [ByteArray.toList_eq] at h
  apply ByteArray.ext
  rw [← h]
end Go.Proofs.YtnhaljmijonndakDoor.Plain
