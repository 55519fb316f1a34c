/- Mails by their subjects, plainly: numbers with their subjects, in order. -/
import Derived.Test.YtihdgfihdecalaaGreatDoorBoxP
namespace Go.Proofs.YtihdgfihdecalaaGreatDoor
open Go.RowKit
set_option linter.unusedVariables false
namespace Plain
/-- A number, and what it is sorted by. -/
structure Tt where
  base : List UInt8
  uid : Int
abbrev bl (x y : List UInt8) : Bool := Op.bytesLess x y
theorem bl_cons {a b : UInt8} {x y : List UInt8} : bl (a :: x) (b :: y) = true ↔ a < b ∨ (a = b ∧ bl x y = true) := by
  unfold bl
  rw [Op.bytesLess]
  simp
theorem bl_irrefl (x : List UInt8) : bl x x = false := by
  induction x with
  | nil => rfl
  | cons a x ih => unfold bl at *; rw [Op.bytesLess]; simp [ih]
theorem bl_tri (x y : List UInt8) (h1 : ¬ bl x y = true) (h2 : ¬ bl y x = true) : x = y := by
  induction x generalizing y with
  | nil => cases y with
    | nil => rfl
    | cons b y => simp [bl, Op.bytesLess] at h1
  | cons a x ih => cases y with
    | nil => simp [bl, Op.bytesLess] at h2
    | cons b y =>
      rw [bl_cons] at h1 h2
      have e : a = b := by
        apply UInt8.toNat_inj.1
        have k1 : ¬ a.toNat < b.toNat := fun q => h1 (.inl (UInt8.lt_iff_toNat_lt.2 q))
        have k2 : ¬ b.toNat < a.toNat := fun q => h2 (.inl (UInt8.lt_iff_toNat_lt.2 q))
        omega
      subst e
      rw [ih y (fun q => h1 (.inr ⟨rfl, q⟩)) (fun q => h2 (.inr ⟨rfl, q⟩))]
theorem bl_trans : ∀ (x y z : List UInt8), bl x y = true → bl y z = true → bl x z = true
  | [], [], _, h, _ => by cases h
  | [], _ :: _, [], _, h => by cases h
  | [], _ :: _, _ :: _, _, _ => rfl
  | _ :: _, [], _, h, _ => by cases h
  | _ :: _, _ :: _, [], _, h => by cases h
  | a :: x, b :: y, c :: z, h1, h2 => by
    rw [bl_cons] at *
    have L : ∀ p q : UInt8, p < q ↔ p.toNat < q.toNat := fun p q => UInt8.lt_iff_toNat_lt
    rcases h1 with h1 | ⟨rfl, h1⟩
    · rcases h2 with h2 | ⟨rfl, h2⟩
      · exact .inl (by rw [L] at *; omega)
      · exact .inl h1
    · rcases h2 with h2 | ⟨rfl, h2⟩
      · exact .inl h2
      · exact .inr ⟨rfl, bl_trans x y z h1 h2⟩
/-- One stands ahead of another. -/
def ltT (x y : Tt) : Prop := bl x.base y.base = true ∨ (x.base = y.base ∧ x.uid < y.uid)
theorem ltT_irrefl (x : Tt) : ¬ ltT x x := by
  rintro (h | ⟨_, h⟩)
  · rw [bl_irrefl] at h; cases h
  · omega
theorem ltT_trans {x y z : Tt} (h1 : ltT x y) (h2 : ltT y z) : ltT x z := by
  rcases h1 with h1 | ⟨e1, h1⟩
  · rcases h2 with h2 | ⟨e2, h2⟩
    · exact .inl (bl_trans _ _ _ h1 h2)
    · exact .inl (e2 ▸ h1)
  · rcases h2 with h2 | ⟨e2, h2⟩
    · exact .inl (e1 ▸ h2)
    · exact .inr ⟨e1.trans e2, by omega⟩
abbrev SortedT (l : List Tt) : Prop := l.Pairwise ltT
theorem sorted_same : ∀ {l1 l2 : List Tt}, l1.Perm l2 → SortedT l1 → SortedT l2 → l1 = l2
  | [], l2, hp, _, _ => hp.nil_eq
  | a :: r, [], hp, _, _ => absurd hp.symm.nil_eq (by simp)
  | a :: r, b :: s, hp, h1, h2 => by
    obtain ⟨a1, a2⟩ := List.pairwise_cons.1 h1
    obtain ⟨b1, b2⟩ := List.pairwise_cons.1 h2
    have hab : a = b := by
      have ha : a ∈ b :: s := hp.mem_iff.1 (by simp)
      have hb : b ∈ a :: r := hp.mem_iff.2 (by simp)
      rcases List.mem_cons.1 ha with e | ha
      · exact e
      · rcases List.mem_cons.1 hb with e | hb
        · exact e.symm
        · exact absurd (ltT_trans (a1 b hb) (b1 a ha)) (ltT_irrefl a)
    subst hab
    rw [sorted_same (List.Perm.cons_inv hp) a2 b2]
/-- Where one goes: behind all that do not stand behind it by what it is sorted by. -/
def posT : List Tt → List UInt8 → Nat
  | [], _ => 0
  | y :: r, n => if bl n y.base = true then 0 else posT r n + 1
def putT (l : List Tt) (x : Tt) : List Tt := l.take (posT l x.base) ++ x :: l.drop (posT l x.base)
def sortT (l : List Tt) : List Tt := l.foldl putT []
theorem posT_le (l : List Tt) (n : List UInt8) : posT l n ≤ l.length := by
  induction l with
  | nil => exact Nat.le_refl _
  | cons y r ih => unfold posT; split <;> simp <;> omega
theorem putT_perm (l : List Tt) (x : Tt) : (putT l x).Perm (x :: l) := by
  unfold putT
  refine List.perm_middle.trans ?_
  rw [List.take_append_drop]
theorem putT_sorted {l : List Tt} {x : Tt} (h : SortedT l) (hu : ∀ y ∈ l, y.uid < x.uid) : SortedT (putT l x) := by
  induction l with
  | nil => exact List.pairwise_singleton _ _
  | cons y r ih =>
    obtain ⟨h1, h2⟩ := List.pairwise_cons.1 h
    unfold putT posT
    by_cases q : bl x.base y.base = true
    · rw [if_pos q]
      refine List.pairwise_cons.2 ⟨fun z hz => ?_, h⟩
      rcases List.mem_cons.1 hz with rfl | hz
      · exact .inl q
      · exact ltT_trans (.inl q) (h1 z hz)
    · rw [if_neg q]
      simp only [List.take_succ_cons, List.drop_succ_cons, List.cons_append]
      refine List.pairwise_cons.2 ⟨fun z hz => ?_, ih h2 (fun z hz => hu z (by simp [hz]))⟩
      have hz2 : z ∈ x :: r := (putT_perm r x).mem_iff.1 hz
      rcases List.mem_cons.1 hz2 with rfl | hz2
      · by_cases q2 : bl y.base z.base = true
        · exact .inl q2
        · exact .inr ⟨bl_tri _ _ q2 q, hu y (by simp)⟩
      · exact h1 z hz2
theorem fold_perm (l acc : List Tt) : (l.foldl putT acc).Perm (l ++ acc) := by
  induction l generalizing acc with
  | nil => exact List.Perm.refl _
  | cons x r ih =>
    refine (ih (putT acc x)).trans ?_
    refine ((putT_perm acc x).append_left r).trans ?_
    exact List.perm_middle
theorem sortT_perm (l : List Tt) : (sortT l).Perm l := by unfold sortT; simpa using fold_perm l []
theorem fold_sorted (l acc : List Tt) (h : SortedT acc) (hl : l.Pairwise (fun x y => x.uid < y.uid)) (ha : ∀ x ∈ acc, ∀ y ∈ l, x.uid < y.uid) : SortedT (l.foldl putT acc) := by
  induction l generalizing acc with
  | nil => exact h
  | cons x r ih =>
    obtain ⟨h1, h2⟩ := List.pairwise_cons.1 hl
    refine ih (putT acc x) (putT_sorted h fun y hy => ha y hy x (by simp)) h2 fun z hz y hy => ?_
    rcases List.mem_cons.1 ((putT_perm acc x).mem_iff.1 hz) with rfl | hz
    · exact h1 y hy
    · exact ha z hz y (by simp [hy])
theorem sortT_sorted {l : List Tt} (hl : l.Pairwise (fun x y => x.uid < y.uid)) : SortedT (sortT l) := fold_sorted l [] List.Pairwise.nil hl (fun x hx => by cases hx)
/-- What is in order, and the same ones, is the one order. -/
theorem sortT_is {l t : List Tt} (hl : l.Pairwise (fun x y => x.uid < y.uid)) (hp : t.Perm l) (ht : SortedT t) : t = sortT l := sorted_same (hp.trans (sortT_perm l).symm) ht (sortT_sorted hl)
/-- The loop that goes down stops where it goes. -/
theorem posT_at {l : List Tt} {n : List UInt8} {k : Nat} (hs : SortedT l) (hk : k ≤ l.length) (h1 : ∀ j y, k ≤ j → l[j]? = some y → bl n y.base = true) (h2 : k = 0 ∨ ∃ y, l[k - 1]? = some y ∧ bl n y.base = false) : k = posT l n := by
  induction l generalizing k with
  | nil => simp at hk; subst hk; rfl
  | cons y r ih =>
    obtain ⟨p1, p2⟩ := List.pairwise_cons.1 hs
    unfold posT
    by_cases q : bl n y.base = true
    · rw [if_pos q]
      rcases h2 with h2 | ⟨z, hz, h2⟩
      · exact h2
      · exfalso
        have hm : z ∈ y :: r := List.mem_of_getElem? hz
        rcases List.mem_cons.1 hm with rfl | hm
        · rw [h2] at q; cases q
        · rcases p1 z hm with e | ⟨e, _⟩
          · rw [bl_trans _ _ _ q e] at h2; cases h2
          · rw [e] at q; rw [q] at h2; cases h2
    · rw [if_neg q]
      cases k with
      | zero => exact absurd (h1 0 y (Nat.le_refl _) rfl) q
      | succ k =>
        congr 1
        refine ih p2 (by simpa using hk) (fun j z hj hz => h1 (j + 1) z (by omega) (by simpa using hz)) ?_
        cases k with
        | zero => exact .inl rfl
        | succ k =>
          rcases h2 with h2 | ⟨z, hz, h2⟩
          · cases h2
          · exact .inr ⟨z, by simpa using hz, h2⟩
end Plain
end Go.Proofs.YtihdgfihdecalaaGreatDoor
