/- Sets of numbers as marks, and the ranges of what is marked. Nothing of the program stands here. -/
import Derived.Test.YtkjlponggednoacRangePlain
namespace Go.Proofs.Ytkjlponggednoac.Plain
set_option linter.unusedVariables false

/-- The upper end of the last one. -/
def lastHi (p : Int) (s : List Rg) : Int := (s.getLast?.map (·.hi)).getD p
theorem lastHi_nil (p : Int) : lastHi p [] = p := rfl
theorem lastHi_snoc (p : Int) (a : List Rg) (r : Rg) : lastHi p (a ++ [r]) = r.hi := by simp [lastHi]
theorem lastHi_cons (p : Int) (r : Rg) (t : List Rg) : lastHi p (r :: t) = lastHi r.hi t := by
  cases t with
  | nil => rfl
  | cons u t => unfold lastHi; rw [List.getLast?_cons_cons, List.getLast?_eq_some_getLast (by simp)]; rfl
theorem okFrom_snoc {p : Int} {a : List Rg} {r : Rg} : okFrom p (a ++ [r]) = true ↔ okFrom p a = true ∧ 1 ≤ r.lo ∧ r.lo ≤ r.hi ∧ r.hi ≤ 9999 ∧ lastHi p a + 1 < r.lo := by
  induction a generalizing p with
  | nil => rw [List.nil_append, okFrom_cons, lastHi_nil]; simp [okFrom]
  | cons u t ih =>
    rw [List.cons_append, okFrom_cons, okFrom_cons, ih, lastHi_cons]
    simp only [and_assoc]

/-- The ranges of what is marked up to n. -/
def runsTo (b : Nat → Bool) : Nat → List Rg
  | 0 => []
  | n + 1 =>
    if b (n + 1) then
      (if b n then (runsTo b n).dropLast ++ [⟨((runsTo b n).getLast?.getD rg0).lo, (n + 1 : Nat)⟩] else runsTo b n ++ [⟨(n + 1 : Nat), (n + 1 : Nat)⟩])
    else runsTo b n

theorem runsTo_off {b : Nat → Bool} {n : Nat} (h : b (n + 1) = false) : runsTo b (n + 1) = runsTo b n := by rw [runsTo, h]; rfl
theorem runsTo_new {b : Nat → Bool} {n : Nat} (h : b (n + 1) = true) (h2 : b n = false) : runsTo b (n + 1) = runsTo b n ++ [⟨(n + 1 : Nat), (n + 1 : Nat)⟩] := by rw [runsTo, h, h2]; rfl
theorem runsTo_on {b : Nat → Bool} {n : Nat} {a : List Rg} {r : Rg} (h : b (n + 1) = true) (h2 : b n = true) (hs : runsTo b n = a ++ [r]) : runsTo b (n + 1) = a ++ [⟨r.lo, (n + 1 : Nat)⟩] := by
  rw [runsTo, h, h2, hs]; simp

theorem runs_inv (b : Nat → Bool) (h0 : b 0 = false) : ∀ n, n ≤ 9999 → okFrom (-1) (runsTo b n) = true ∧ (∀ m : Int, hasB (runsTo b n) m = (decide (1 ≤ m ∧ m ≤ n) && b m.toNat)) ∧
    (b n = true → ∃ (a : List Rg) (r : Rg), runsTo b n = a ++ [r] ∧ r.hi = (n : Int)) ∧ (b n = false → lastHi (-1) (runsTo b n) < n) ∧ lastHi (-1) (runsTo b n) ≤ n := by
  intro n
  induction n with
  | zero =>
    intro _
    refine ⟨rfl, fun m => ?_, fun h => (by rw [h0] at h; cases h), fun _ => (by simp [runsTo, lastHi_nil]), by simp [runsTo, lastHi_nil]⟩
    rw [runsTo, hasB_nil]
    by_cases hm : 1 ≤ m ∧ m ≤ ((0 : Nat) : Int)
    · omega
    · rw [decide_eq_false hm]; rfl
  | succ n ih =>
    intro hn
    obtain ⟨i1, i2, i3, i4, i5⟩ := ih (by omega)
    cases hb : b (n + 1) with
    | false =>
      rw [runsTo_off hb]
      refine ⟨i1, fun m => ?_, fun h => (by cases h), fun _ => (by omega), by omega⟩
      rw [i2 m]
      by_cases hm : 1 ≤ m ∧ m ≤ (n : Int)
      · rw [decide_eq_true hm, decide_eq_true (show 1 ≤ m ∧ m ≤ ((n + 1 : Nat) : Int) by omega)]
      · by_cases hm2 : m = ((n + 1 : Nat) : Int)
        · subst hm2
          rw [decide_eq_false hm, Int.toNat_natCast, hb]; simp
        · rw [decide_eq_false hm, decide_eq_false (show ¬ (1 ≤ m ∧ m ≤ ((n + 1 : Nat) : Int)) by omega)]
    | true =>
      cases hc : b n with
      | false =>
        have hl := i4 hc
        rw [runsTo_new hb hc]
        refine ⟨okFrom_snoc.2 ⟨i1, (by show (1 : Int) ≤ ((n + 1 : Nat) : Int); omega), Int.le_refl _, (by show ((n + 1 : Nat) : Int) ≤ 9999; omega), (by show lastHi (-1) (runsTo b n) + 1 < ((n + 1 : Nat) : Int); omega)⟩, fun m => ?_, fun _ => ⟨_, _, rfl, rfl⟩, fun h => (by cases h), by rw [lastHi_snoc]; exact Int.le_refl _⟩
        rw [hasB_append, i2 m, hasB_cons, hasB_nil, Bool.or_false]
        by_cases hm2 : m = ((n + 1 : Nat) : Int)
        · subst hm2
          simp only [Int.toNat_natCast, hb]
          simp
          omega
        · by_cases hm : 1 ≤ m ∧ m ≤ (n : Int)
          · rw [decide_eq_true hm, decide_eq_true (show 1 ≤ m ∧ m ≤ ((n + 1 : Nat) : Int) by omega), decide_eq_false (show ¬ ((n + 1 : Nat) : Int) ≤ m by omega)]; simp
          · rw [decide_eq_false hm, decide_eq_false (show ¬ (1 ≤ m ∧ m ≤ ((n + 1 : Nat) : Int)) by omega)]
            by_cases hx : ((n + 1 : Nat) : Int) ≤ m
            · rw [decide_eq_false (show ¬ m ≤ ((n + 1 : Nat) : Int) by omega)]; simp
            · rw [decide_eq_false hx]; simp
      | true =>
        obtain ⟨a, r, hs, hr⟩ := i3 hc
        rw [runsTo_on hb hc hs]
        rw [hs] at i1 i2
        obtain ⟨o1, o2, o3, o4, o5⟩ := okFrom_snoc.1 i1
        refine ⟨okFrom_snoc.2 ⟨o1, o2, (by show r.lo ≤ ((n + 1 : Nat) : Int); omega), (by show ((n + 1 : Nat) : Int) ≤ 9999; omega), o5⟩, fun m => ?_, fun _ => ⟨_, _, rfl, rfl⟩, fun h => (by cases h), by rw [lastHi_snoc]; exact Int.le_refl _⟩
        have hm' := i2 m
        rw [hasB_append, hasB_cons, hasB_nil, Bool.or_false] at hm' ⊢
        simp only [hr] at hm'
        by_cases hm2 : m = ((n + 1 : Nat) : Int)
        · subst hm2
          simp only [Int.toNat_natCast, hb]
          rw [decide_eq_true (show r.lo ≤ ((n + 1 : Nat) : Int) by omega), decide_eq_true (Int.le_refl ((n + 1 : Nat) : Int)), decide_eq_true (show 1 ≤ ((n + 1 : Nat) : Int) ∧ ((n + 1 : Nat) : Int) ≤ ((n + 1 : Nat) : Int) by omega)]
          simp
        · by_cases hm : m ≤ (n : Int)
          · rw [decide_eq_true hm] at hm'
            rw [decide_eq_true (show m ≤ ((n + 1 : Nat) : Int) by omega), hm']
            by_cases h1 : 1 ≤ m
            · rw [decide_eq_true (show 1 ≤ m ∧ m ≤ (n : Int) by omega), decide_eq_true (show 1 ≤ m ∧ m ≤ ((n + 1 : Nat) : Int) by omega)]
            · rw [decide_eq_false (show ¬ (1 ≤ m ∧ m ≤ (n : Int)) by omega), decide_eq_false (show ¬ (1 ≤ m ∧ m ≤ ((n + 1 : Nat) : Int)) by omega)]
          · rw [decide_eq_false hm, Bool.and_false, Bool.or_false, decide_eq_false (show ¬ (1 ≤ m ∧ m ≤ (n : Int)) by omega), Bool.false_and] at hm'
            rw [hm', decide_eq_false (show ¬ m ≤ ((n + 1 : Nat) : Int) by omega), decide_eq_false (show ¬ (1 ≤ m ∧ m ≤ ((n + 1 : Nat) : Int)) by omega)]
            simp

theorem runs_len (b : Nat → Bool) : ∀ n, (runsTo b n).length ≤ n := by
  intro n
  induction n with
  | zero => simp [runsTo]
  | succ n ih =>
    rw [runsTo]
    split
    · split
      · simp; omega
      · simp; omega
    · omega

/-- The set of what is marked. -/
def setOf (b : Nat → Bool) : List Rg := runsTo b 9999
theorem setOf_ok (b : Nat → Bool) (h0 : b 0 = false) : okFrom (-1) (setOf b) = true := (runs_inv b h0 9999 (Nat.le_refl _)).1
theorem setOf_has (b : Nat → Bool) (h0 : b 0 = false) (m : Int) : hasB (setOf b) m = (decide (1 ≤ m ∧ m ≤ 9999) && b m.toNat) := (runs_inv b h0 9999 (Nat.le_refl _)).2.1 m
/-- A right row with these numbers is that set. -/
theorem setOf_is {b : Nat → Bool} (h0 : b 0 = false) {s : List Rg} {p : Int} (h : okFrom p s = true) (hb : ∀ m : Int, 1 ≤ m → m ≤ 9999 → hasB s m = b m.toNat) : s = setOf b := by
  refine set_unique s _ p (-1) h (setOf_ok b h0) (fun n => ?_)
  rw [setOf_has b h0]
  by_cases hn : 1 ≤ n ∧ n ≤ 9999
  · rw [decide_eq_true hn, Bool.true_and, hb n hn.1 hn.2]
  · rw [decide_eq_false hn, Bool.false_and]
    cases hx : hasB s n with
    | false => rfl
    | true => have := has_low h hx; omega

def bitsOf (s : List Rg) (n : Nat) : Bool := hasB s (n : Int)
theorem bitsOf_zero {s : List Rg} {p : Int} (h : okFrom p s = true) : bitsOf s 0 = false := by
  cases hx : bitsOf s 0 with
  | false => rfl
  | true => have := has_low h hx; simp at this
theorem set_back {s : List Rg} {p : Int} (h : okFrom p s = true) : setOf (bitsOf s) = s :=
  (setOf_is (bitsOf_zero h) h (fun m h1 h2 => by unfold bitsOf; rw [Int.toNat_of_nonneg (by omega)])).symm

/-- The set of what is marked, if it is right. -/
def setV (b : Nat → Bool) : List Rg × Bool := if (setOf b).length ≤ 40 then (setOf b, true) else ([], false)
def putB (s : List Rg) (lo hi : Int) (c : Bool) (n : Nat) : Bool := if lo ≤ (n : Int) ∧ (n : Int) ≤ hi then c else bitsOf s n
/-- A set with some put in or taken out. -/
def putV (s : List Rg) (lo hi : Int) (c : Bool) : List Rg × Bool :=
  if okS s = true ∧ 1 ≤ lo ∧ lo ≤ hi ∧ hi ≤ 9999 then (if (setOf (putB s lo hi c)).length ≤ 40 then (setOf (putB s lo hi c), true) else (s, false)) else (s, false)
def twoB (a b : List Rg) (both : Bool) (n : Nat) : Bool := if both then bitsOf a n && bitsOf b n else bitsOf a n || bitsOf b n
/-- What two sets have, either or both. -/
def twoV (a b : List Rg) (both : Bool) : List Rg × Bool := if okS a = true ∧ okS b = true then setV (twoB a b both) else ([], false)
def sizeL (s : List Rg) : Int := if okS s = true then s.foldl (fun n r => n + r.hi - r.lo + 1) 0 else 0
end Go.Proofs.Ytkjlponggednoac.Plain
