/- Several texts in one: Region, Late. Made by fuse_tl.py. -/
import Derived.Deep.RegionHeld3
/- A drawing region, taken by hand in the order of its text: what is passed over, what yields. Nothing of the program stands here. -/
namespace Go.Proofs.YtihdgfihdecalaaGreatDoor
open Go

section
variable {P : Program} {ops : Array Oper} {Q : Exit → Act → World → Prop} {md : Region.Mode} {S : World → Prop}

/-- An operation whose guard says no is passed over. -/
theorem takeSkip (i : Nat) (d : Option Tmp) {oi : Oper} {fuel : Nat} {listed : Array Bool} {a : Act} {w : World} (hi : ops[i]? = some oi)
    (hs : Region.noSelect ops = true) (hf : Region.free md ops listed i = true) (hr : (Region.ready md ops listed).contains i = true) (hd : oi.dst = d)
    (hQ : ∀ c a w, Q (.panic c) (a.put d undef) w → Q (.panic c) a w) (hw : Region.wanted oi (yielded ops a.tmps) = false) (hS : S w)
    (h : wpAnyH P md ops Q S fuel (listed.setIfInBounds i true) (a.put d undef) w) : wpAnyH P md ops Q S (fuel + 1) listed a w := by
  subst hd
  exact wpAnyH_take hi hs hf hr hQ (Or.inr ⟨hw, rfl⟩) hS h

/-- An operation that yields its value in every world that meets S. -/
theorem takeVal (i : Nat) (d : Option Tmp) (v : Value) {oi : Oper} {fuel : Nat} {listed : Array Bool} {a : Act} {w : World} (hi : ops[i]? = some oi)
    (hs : Region.noSelect ops = true) (hf : Region.free md ops listed i = true) (hr : (Region.ready md ops listed).contains i = true) (hd : oi.dst = d)
    (hQ : ∀ c a w, Q (.panic c) (a.put d v) w → Q (.panic c) a w) (hw : Region.wanted oi (yielded ops a.tmps) = true) (hS : S w)
    (hy : ∀ w, S w → (execOp a.eval oi).run P w = .ok (.value v) w)
    (h : wpAnyH P md ops Q S fuel (listed.setIfInBounds i true) (a.put d v) w) : wpAnyH P md ops Q S (fuel + 1) listed a w := by
  subst hd
  exact wpAnyH_take hi hs hf hr hQ (Or.inl ⟨hw, hy⟩) hS h
end
end Go.Proofs.YtihdgfihdecalaaGreatDoor

/- A drawing region whose last operations wait for all others: a condition on the world under which operations are taken first need not hold behind those last ones. Nothing of the program stands here. -/
namespace Go.Proofs.YtihdgfihdecalaaGreatDoor
open Go
set_option linter.unusedVariables false

section
variable {P : Program} {ops : Array Oper} {Q : Exit → Act → World → Prop} {S : World → Prop}

/-- Whatever order is picked from here on; S holds behind each operation whose number is below z. -/
def wpLate (P : Program) (ops : Array Oper) (Q : Exit → Act → World → Prop) (S : World → Prop) (z : Nat) : Nat → Array Bool → Act → World → Prop
  | 0, listed, a, w => Region.ready .any ops listed = [] ∧ Q .normal a w
  | fuel + 1, listed, a, w => (Region.ready .any ops listed = [] → Q .normal a w) ∧
      ∀ i ∈ Region.ready .any ops listed, wpOp P ops Q i (fun a' w' => (i < z → S w') ∧ wpLate P ops Q S z fuel (listed.setIfInBounds i true) a' w') a w

/-- Those from z on that have not come up wait for number i. -/
def lateOk (ops : Array Oper) (listed : Array Bool) (z i : Nat) : Bool :=
  (List.range ops.size).all fun j => decide (j < z) || j == i || listed.getD j true || match ops[j]? with
    | some oj => oj.after.any fun e => Region.binds .any e && e.on == i
    | none => true
theorem lateOk_spec {listed : Array Bool} {z i j : Nat} {oj : Oper} (h : lateOk ops listed z i = true) (hj : ops[j]? = some oj) (hz : z ≤ j) (hne : j ≠ i) (hun : listed.getD j true = false) :
    ∃ e ∈ oj.after, Region.binds .any e = true ∧ e.on = i := by
  unfold lateOk at h
  rw [List.all_eq_true] at h
  have h1 := h j (List.mem_range.2 (Array.getElem?_eq_some_iff.1 hj).1)
  have h2 : decide (j < z) = false := by simp; omega
  have h3 : (j == i) = false := by simp [hne]
  rw [h2, h3, hun, hj] at h1
  simp only [Bool.false_or] at h1
  obtain ⟨e, he, hb⟩ := Array.any_eq_true'.1 h1
  rw [Bool.and_eq_true, beq_iff_eq] at hb
  exact ⟨e, he, hb.1, hb.2⟩

theorem getD_self (listed : Array Bool) (k : Nat) : (listed.setIfInBounds k true).getD k true = true := by
  by_cases h : k < listed.size <;> simp [Array.getD, h]
theorem lateOk_more {listed : Array Bool} {z i k : Nat} (h : lateOk ops listed z i = true) : lateOk ops (listed.setIfInBounds k true) z i = true := by
  unfold lateOk at *
  rw [List.all_eq_true] at *
  intro j hj
  have h1 := h j hj
  by_cases e : k = j
  · subst e
    have h2 := getD_self listed k
    simp only [h2, Bool.or_true, Bool.true_or]
  · rw [getD_set_ne true e]
    exact h1

/-- A ready operation does not wait for one that has not come up. -/
theorem ready_waits {i j : Nat} {listed : Array Bool} (hi : i ∈ Region.ready .any ops listed) (hj : j ∈ Region.ready .any ops listed) : ∃ oj, ops[j]? = some oj ∧ ∀ e ∈ oj.after, Region.binds .any e = true → e.on ≠ i := by
  obtain ⟨_, oj, hoj, hall⟩ := mem_ready.1 hj
  refine ⟨oj, hoj, fun e he hb heq => ?_⟩
  have h1 := hall e he hb
  have h0 := (mem_ready.1 hi).1
  rw [heq] at h1
  rcases Nat.lt_or_ge i listed.size with h' | h'
  · simp [Array.getD, h'] at h0 h1
    rw [h0] at h1; cases h1
  · simp [Array.getD] at h0
    obtain ⟨h2, _⟩ := h0
    omega

theorem late_first {z i : Nat} {oi : Oper} {v : Value} (hi : ops[i]? = some oi) (hsel : ∀ (j : Nat) (o : Oper) cs b, ops[j]? = some o → o.op ≠ .select cs b)
    (hQ : ∀ c a w, Q (.panic c) (a.put oi.dst v) w → Q (.panic c) a w) (fuel : Nat) :
    ∀ (listed : Array Bool) (a : Act) (w : World), Region.free .any ops listed i = true → lateOk ops listed z i = true → i ∈ Region.ready .any ops listed → YieldsIf P ops S oi v a → S w →
      wpLate P ops Q S z fuel (listed.setIfInBounds i true) (a.put oi.dst v) w → wpLate P ops Q S z (fuel + 1) listed a w := by
  induction fuel with
  | zero =>
    intro listed a w hf hl hr hy hS H
    refine ⟨fun h => (by rw [h] at hr; cases hr), fun j hj => ?_⟩
    by_cases hji : j = i
    · subst hji
      exact hy.wpOp hi hS ⟨fun _ => hS, H⟩
    · have := ready_mono hj hji
      rw [H.1] at this
      cases this
  | succ fuel ih =>
    intro listed a w hf hl hr hy hS H
    refine ⟨fun h => (by rw [h] at hr; cases hr), fun j hj => ?_⟩
    by_cases hji : j = i
    · subst hji
      exact hy.wpOp hi hS ⟨fun _ => hS, H⟩
    · obtain ⟨oj, hoj, hnot⟩ := ready_waits hr hj
      have hun := (mem_ready.1 hj).1
      have hjz : j < z := by
        rcases Nat.lt_or_ge j z with h | h
        · exact h
        · obtain ⟨e, he, hb, heq⟩ := lateOk_spec hl hoj h hji hun
          exact absurd heq (hnot e he hb)
      have hap := Region.free_spec hi hf j oj hoj hji hun hnot
      have h2 := wpOp_putIf hoj hap (fun cs b => hsel i oi cs b hi) (fun cs b => hsel j oj cs b hoj) hQ hy (H.2 j (ready_mono hj hji))
      have hf' : Region.free .any ops (listed.setIfInBounds j true) i = true := by
        unfold Region.free at hf ⊢
        rw [hi] at hf ⊢
        simp only [List.all_eq_true] at hf ⊢
        intro k hk
        have h1 := hf k hk
        by_cases e : j = k
        · subst e
          have h2 := getD_self listed j
          simp only [h2, Bool.or_true, Bool.true_or]
        · rw [getD_set_ne true e]
          exact h1
      refine wpOp_mono (fun a' w' h3 => ⟨h3.2.1, ?_⟩) h2
      refine ih _ a' w' hf' (lateOk_more hl) (ready_mono hr (Ne.symm hji)) h3.1 (h3.2.1 hjz) ?_
      rw [Array.setIfInBounds_comm _ _ hji]
      exact h3.2.2

/-- An operation that yields its value in every world that meets S is taken first. -/
theorem lateTake (i : Nat) (d : Option Tmp) (v : Value) {z : Nat} {oi : Oper} {fuel : Nat} {listed : Array Bool} {a : Act} {w : World} (hi : ops[i]? = some oi)
    (hs : Region.noSelect ops = true) (hf : Region.free .any ops listed i = true) (hl : lateOk ops listed z i = true) (hr : (Region.ready .any ops listed).contains i = true) (hd : oi.dst = d)
    (hQ : ∀ c a w, Q (.panic c) (a.put d v) w → Q (.panic c) a w) (hw : Region.wanted oi (yielded ops a.tmps) = true) (hS : S w)
    (hy : ∀ w, S w → (execOp a.eval oi).run P w = .ok (.value v) w)
    (h : wpLate P ops Q S z fuel (listed.setIfInBounds i true) (a.put d v) w) : wpLate P ops Q S z (fuel + 1) listed a w := by
  subst hd
  exact late_first hi (Region.noSelect_spec hs) hQ fuel listed a w hf hl (by simpa using hr) (Or.inl ⟨hw, hy⟩) hS h
end
end Go.Proofs.YtihdgfihdecalaaGreatDoor
