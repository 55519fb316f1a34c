/- Rows of ranges, plainly: their cells; sets of numbers as ranges. Nothing of the program stands here. -/
import Derived.Test.YtkjlponggednoacPlain
import Derived.WalkKit
namespace Go.Proofs.Ytkjlponggednoac.Plain
set_option linter.unusedVariables false

structure Rg where
  lo : Int
  hi : Int

def rgl (r : Rg) : List Value := [.int .i64 r.lo, .int .i64 r.hi]
def rgs (l : List Rg) : List Value := l.flatMap rgl
theorem rgs_nil : rgs [] = [] := rfl
theorem rgs_cons (r : Rg) (l : List Rg) : rgs (r :: l) = rgl r ++ rgs l := by simp [rgs]
theorem rgs_append (a b : List Rg) : rgs (a ++ b) = rgs a ++ rgs b := by simp [rgs]
theorem rgs_length (l : List Rg) : (rgs l).length = l.length * 2 := by
  induction l with
  | nil => rfl
  | cons f r ih => rw [rgs_cons, List.length_append, ih]; simp [rgl]; omega
theorem rgs_get (l : List Rg) (k : Nat) (f : Rg) (h : l[k]? = some f) (j : Nat) (hj : j < 2) : (rgs l)[k * 2 + j]? = (rgl f)[j]? := by
  induction l generalizing k with
  | nil => simp at h
  | cons g r ih =>
    rw [rgs_cons]
    cases k with
    | zero =>
      simp at h; subst h
      rw [Nat.zero_mul, Nat.zero_add, List.getElem?_append_left (by simpa [rgl] using hj)]
    | succ k =>
      simp at h
      rw [List.getElem?_append_right (by simp [rgl]; omega)]
      have : (k + 1) * 2 + j - (rgl g).length = k * 2 + j := by simp [rgl]; omega
      rw [this, ih k h]
theorem rgs_0 {l : List Rg} {k : Nat} {f : Rg} (h : l[k]? = some f) : (rgs l)[k * 2]? = some (.int .i64 f.lo) := by
  have := rgs_get l k f h 0 (by omega); simpa [rgl] using this
theorem rgs_1 {l : List Rg} {k : Nat} {f : Rg} (h : l[k]? = some f) : (rgs l)[k * 2 + 1]? = some (.int .i64 f.hi) := by
  have := rgs_get l k f h 1 (by omega); simpa [rgl] using this
/-- One range of a row laid anew, cell by cell. -/
theorem rgs_set (l : List Rg) (k : Nat) (f : Rg) (h : k < l.length) : ((rgs l).set (k * 2) (.int .i64 f.lo)).set (k * 2 + 1) (.int .i64 f.hi) = rgs (l.set k f) := by
  apply List.ext_getElem?
  intro i
  obtain ⟨q, j, rfl, hj⟩ : ∃ q j, i = q * 2 + j ∧ j < 2 := ⟨i / 2, i % 2, by omega, Nat.mod_lt _ (by omega)⟩
  by_cases hq : q < l.length
  · by_cases e : q = k
    · subst e
      rw [rgs_get (l.set q f) q f (by simp [hq]) j hj]
      have hl : (rgs l).length = l.length * 2 := rgs_length l
      match j, hj with
      | 0, _ => simp [List.getElem?_set, rgl]; omega
      | 1, _ => simp [List.getElem?_set, rgl]; omega
    · rw [rgs_get (l.set k f) q l[q] (by rw [List.getElem?_set_ne (by omega), List.getElem?_eq_getElem hq]) j hj, ← rgs_get l q l[q] (List.getElem?_eq_getElem hq) j hj]
      rw [List.getElem?_set_ne (by omega), List.getElem?_set_ne (by omega)]
  · rw [List.getElem?_eq_none (by simp [rgs_length]; omega), List.getElem?_eq_none (by simp [rgs_length]; omega)]
/-- The upper end alone laid anew. -/
theorem rgs_setHi (l : List Rg) (k : Nat) (f : Rg) (x : Int) (h : l[k]? = some f) : (rgs l).set (k * 2 + 1) (.int .i64 x) = rgs (l.set k ⟨f.lo, x⟩) := by
  have hk : k < l.length := (List.getElem?_eq_some_iff.1 h).1
  rw [← rgs_set l k ⟨f.lo, x⟩ hk]
  have e : (rgs l).set (k * 2) (.int .i64 f.lo) = rgs l := by
    apply List.ext_getElem?
    intro i
    by_cases hi : k * 2 = i
    · subst hi
      rw [List.getElem?_set_self (by rw [rgs_length]; omega), rgs_0 h]
    · rw [List.getElem?_set_ne hi]
  rw [e]

def rg0 : Rg := ⟨0, 0⟩
def laidR (l : List Rg) (k : Nat) : List Rg := l.take k ++ List.replicate (l.length - k) rg0
theorem laidR_zero (l : List Rg) : laidR l 0 = List.replicate l.length rg0 := by simp [laidR]
theorem laidR_all (l : List Rg) : laidR l l.length = l := by simp [laidR]
theorem laidR_length (l : List Rg) (k : Nat) (h : k ≤ l.length) : (laidR l k).length = l.length := by simp [laidR]; omega
theorem laidR_set (l : List Rg) (k : Nat) (h : k < l.length) : (laidR l k).set k l[k] = laidR l (k + 1) := by
  unfold laidR
  have e : l.length - k = (l.length - (k + 1)) + 1 := by omega
  rw [List.set_append_right _ _ (by simp; omega), e, List.replicate_succ]
  have : k - (l.take k).length = 0 := by simp; omega
  rw [this, List.set_cons_zero, List.take_succ_eq_append_getElem h, List.append_assoc]
  rfl

/-- Marks: k0, k0 + 1, .. in the cells of n ranges. -/
def mkR (k : Nat) : Rg := ⟨(k : Int), (k : Int) + 1⟩
def marksR (k0 n : Nat) : List Rg := (List.range n).map fun i => mkR (k0 + i * 2)
theorem marksR_length (k0 n : Nat) : (marksR k0 n).length = n := by simp [marksR]
theorem marksR_get {k0 n i : Nat} (h : i < n) : (marksR k0 n)[i]? = some (mkR (k0 + i * 2)) := by simp [marksR, h]
def markedR (k0 : Nat) (l : List Rg) (i : Nat) : List Rg := marksR k0 i ++ l.drop i
theorem markedR_zero (k0 : Nat) (l : List Rg) : markedR k0 l 0 = l := by simp [markedR, marksR]
theorem markedR_all {k0 : Nat} {l : List Rg} : markedR k0 l l.length = marksR k0 l.length := by simp [markedR]
theorem markedR_length {k0 i : Nat} {l : List Rg} (h : i ≤ l.length) : (markedR k0 l i).length = l.length := by simp [markedR, marksR]; omega
theorem markedR_set {k0 i : Nat} {l : List Rg} (h : i < l.length) : (markedR k0 l i).set i (mkR (k0 + i * 2)) = markedR k0 l (i + 1) := by
  unfold markedR
  rw [List.set_append_right _ _ (by simp [marksR])]
  have e : i - (marksR k0 i).length = 0 := by simp [marksR]
  rw [e, List.drop_eq_getElem_cons h, List.set_cons_zero]
  simp [marksR, List.range_succ]

/- Sets of numbers. -/
/-- Ranges in order, none meeting the one ahead of it, whose upper end is p. -/
def okFrom : Int → List Rg → Bool
  | _, [] => true
  | p, r :: t => decide (1 ≤ r.lo) && decide (r.lo ≤ r.hi) && decide (r.hi ≤ 9999) && decide (p + 1 < r.lo) && okFrom r.hi t
def okS (s : List Rg) : Bool := okFrom (-1) s && decide (s.length ≤ 40)
def hasB (s : List Rg) (n : Int) : Bool := s.any fun r => decide (r.lo ≤ n) && decide (n ≤ r.hi)

theorem okFrom_cons {p : Int} {r : Rg} {t : List Rg} : okFrom p (r :: t) = true ↔ 1 ≤ r.lo ∧ r.lo ≤ r.hi ∧ r.hi ≤ 9999 ∧ p + 1 < r.lo ∧ okFrom r.hi t = true := by
  simp [okFrom, and_assoc]
theorem okFrom_mono {p q : Int} {t : List Rg} (h : okFrom p t = true) (hq : q ≤ p) : okFrom q t = true := by
  cases t with
  | nil => rfl
  | cons r t =>
    rw [okFrom_cons] at h ⊢
    exact ⟨h.1, h.2.1, h.2.2.1, by omega, h.2.2.2.2⟩
theorem hasB_cons (r : Rg) (t : List Rg) (n : Int) : hasB (r :: t) n = ((decide (r.lo ≤ n) && decide (n ≤ r.hi)) || hasB t n) := by simp [hasB]
theorem hasB_append (a b : List Rg) (n : Int) : hasB (a ++ b) n = (hasB a n || hasB b n) := by simp [hasB]
theorem hasB_nil (n : Int) : hasB [] n = false := rfl
/-- All of a right row lies beyond what is ahead of it, and up to 9999. -/
theorem has_low {p : Int} {t : List Rg} (h : okFrom p t = true) {n : Int} (hn : hasB t n = true) : p + 1 < n ∧ 1 ≤ n ∧ n ≤ 9999 := by
  induction t generalizing p with
  | nil => simp [hasB] at hn
  | cons r t ih =>
    rw [okFrom_cons] at h
    rw [hasB_cons] at hn
    obtain ⟨h1, h2, h3, h4, h5⟩ := h
    rcases Bool.or_eq_true _ _ ▸ hn with hx | hx
    · simp at hx; omega
    · have := ih h5 hx
      omega
theorem hasB_no {p : Int} {t : List Rg} (h : okFrom p t = true) {n : Int} (hn : n ≤ p + 1) : hasB t n = false := by
  cases hx : hasB t n with
  | false => rfl
  | true => have := has_low h hx; omega

/-- Two right rows with the same numbers are the same. -/
theorem set_unique : ∀ (s t : List Rg) (p q : Int), okFrom p s = true → okFrom q t = true → (∀ n, hasB s n = hasB t n) → s = t := by
  intro s
  induction s with
  | nil =>
    intro t p q hs ht h
    cases t with
    | nil => rfl
    | cons u t =>
      rw [okFrom_cons] at ht
      have := h u.lo
      rw [hasB_nil, hasB_cons] at this
      simp at this
      omega
  | cons r s ih =>
    intro t p q hs ht h
    cases t with
    | nil =>
      rw [okFrom_cons] at hs
      have := h r.lo
      rw [hasB_nil, hasB_cons] at this
      simp at this
      omega
    | cons u t =>
      rw [okFrom_cons] at hs ht
      obtain ⟨a1, a2, a3, a4, a5⟩ := hs
      obtain ⟨b1, b2, b3, b4, b5⟩ := ht
      have below : ∀ (x : Rg) (y : List Rg), okFrom x.hi y = true → x.lo ≤ x.hi → ∀ n, n < x.lo → hasB (x :: y) n = false := by
        intro x y hy hx n hn
        rw [hasB_cons, hasB_no hy (by omega), decide_eq_false (show ¬ x.lo ≤ n by omega)]
        rfl
      have inside : ∀ (x : Rg) (y : List Rg) n, x.lo ≤ n → n ≤ x.hi → hasB (x :: y) n = true := by
        intro x y n h1 h2
        rw [hasB_cons, decide_eq_true h1, decide_eq_true h2]; rfl
      have after : ∀ (x : Rg) (y : List Rg), okFrom x.hi y = true → hasB (x :: y) (x.hi + 1) = false := by
        intro x y hy
        rw [hasB_cons, hasB_no hy (by omega), decide_eq_false (show ¬ x.hi + 1 ≤ x.hi by omega), Bool.and_false]
        rfl
      have elo : r.lo = u.lo := by
        have h1 := h r.lo
        have h2 := h u.lo
        rw [inside r s r.lo (by omega) a2] at h1
        rw [inside u t u.lo (by omega) b2] at h2
        rcases Int.lt_trichotomy r.lo u.lo with hl | hl | hl
        · rw [below u t b5 b2 r.lo hl] at h1; cases h1
        · exact hl
        · rw [below r s a5 a2 u.lo hl] at h2; cases h2
      have ehi : r.hi = u.hi := by
        rcases Int.lt_trichotomy r.hi u.hi with hl | hl | hl
        · have h1 := h (r.hi + 1)
          rw [after r s a5, inside u t (r.hi + 1) (by omega) (by omega)] at h1
          cases h1
        · exact hl
        · have h1 := h (u.hi + 1)
          rw [after u t b5, inside r s (u.hi + 1) (by omega) (by omega)] at h1
          cases h1
      have e : r = u := by cases r; cases u; simp at elo ehi; rw [elo, ehi]
      subst e
      rw [ih t r.hi r.hi a5 b5 (fun n => ?_)]
      have hn := h n
      rw [hasB_cons, hasB_cons] at hn
      by_cases hr : n ≤ r.hi
      · rw [hasB_no a5 (by omega), hasB_no b5 (by omega)]
      · rw [decide_eq_false hr, Bool.and_false, Bool.false_or, Bool.false_or] at hn
        exact hn
end Go.Proofs.Ytkjlponggednoac.Plain
