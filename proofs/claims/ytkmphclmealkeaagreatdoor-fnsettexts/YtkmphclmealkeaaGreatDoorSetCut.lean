/- Sets of numbers cut into what lies ahead of a range, what it meets and what lies behind it; put together again. Nothing of the program stands here. -/
import Derived.Test.YtkmphclmealkeaaGreatDoorSetPlain
namespace Go.Proofs.YtkmphclmealkeaaGreatDoor.Plain
set_option linter.unusedVariables false

theorem okFrom_append {p : Int} {a b : List Rg} : okFrom p (a ++ b) = true ↔ okFrom p a = true ∧ okFrom (lastHi p a) b = true := by
  induction a generalizing p with
  | nil => simp [okFrom, lastHi_nil]
  | cons u t ih =>
    rw [List.cons_append, okFrom_cons, okFrom_cons, ih, lastHi_cons]
    simp only [and_assoc]
theorem okFrom_each {p : Int} {s : List Rg} (h : okFrom p s = true) : ∀ r ∈ s, p + 1 < r.lo ∧ 1 ≤ r.lo ∧ r.lo ≤ r.hi ∧ r.hi ≤ 9999 := by
  induction s generalizing p with
  | nil => intro r hr; simp at hr
  | cons u t ih =>
    rw [okFrom_cons] at h
    intro r hr
    rcases List.mem_cons.1 hr with rfl | hr
    · exact ⟨h.2.2.2.1, h.1, h.2.1, h.2.2.1⟩
    · have := ih h.2.2.2.2 r hr
      exact ⟨by omega, this.2⟩
theorem lastHi_le {p q : Int} {s : List Rg} (hp : p ≤ q) (h : ∀ r ∈ s, r.hi ≤ q) : lastHi p s ≤ q := by
  induction s generalizing p with
  | nil => exact hp
  | cons u t ih => rw [lastHi_cons]; exact ih (h u (by simp)) (fun r hr => h r (by simp [hr]))
theorem le_lastHi {p : Int} {s : List Rg} (h : okFrom p s = true) : p ≤ lastHi p s ∧ ∀ r ∈ s, r.hi ≤ lastHi p s := by
  induction s generalizing p with
  | nil => exact ⟨Int.le_refl _, fun r hr => by simp at hr⟩
  | cons u t ih =>
    rw [okFrom_cons] at h
    rw [lastHi_cons]
    have := ih h.2.2.2.2
    refine ⟨by omega, fun r hr => ?_⟩
    rcases List.mem_cons.1 hr with rfl | hr
    · exact this.1
    · exact this.2 r hr
/-- A row whose ranges all begin beyond q is right behind q. -/
theorem okFrom_from {p q : Int} {s : List Rg} (h : okFrom p s = true) (hq : ∀ r ∈ s, q + 1 < r.lo) : okFrom q s = true := by
  cases s with
  | nil => rfl
  | cons u t =>
    rw [okFrom_cons] at h ⊢
    exact ⟨h.1, h.2.1, h.2.2.1, hq u (by simp), h.2.2.2.2⟩
theorem hasB_iff {s : List Rg} {n : Int} : hasB s n = true ↔ ∃ r ∈ s, r.lo ≤ n ∧ n ≤ r.hi := by
  unfold hasB
  rw [List.any_eq_true]
  constructor
  · rintro ⟨r, hr, h⟩
    simp at h
    exact ⟨r, hr, h⟩
  · rintro ⟨r, hr, h⟩
    exact ⟨r, hr, by simpa using h⟩
theorem hasB_flat (f : Rg → List Rg) (l : List Rg) (n : Int) : hasB (l.flatMap f) n = l.any fun r => hasB (f r) n := by
  induction l with
  | nil => rfl
  | cons u t ih => rw [List.flatMap_cons, hasB_append, ih, List.any_cons]
theorem hasB_ext {s : List Rg} {n : Int} {P : Bool} (h : (∃ r ∈ s, r.lo ≤ n ∧ n ≤ r.hi) ↔ P = true) : hasB s n = P := by
  rw [← hasB_iff] at h
  cases hx : hasB s n <;> cases hy : P <;> simp_all

def aheadL (s : List Rg) (x : Int) : List Rg := s.takeWhile fun r => decide (r.hi < x)
def restL (s : List Rg) (x : Int) : List Rg := s.dropWhile fun r => decide (r.hi < x)
def metL (s : List Rg) (x y : Int) : List Rg := (restL s x).takeWhile fun r => decide (r.lo ≤ y)
def behindL (s : List Rg) (x y : Int) : List Rg := (restL s x).dropWhile fun r => decide (r.lo ≤ y)
theorem cut_all (s : List Rg) (x y : Int) : aheadL s x ++ (metL s x y ++ behindL s x y) = s := by
  unfold aheadL metL behindL
  rw [List.takeWhile_append_dropWhile]
  exact List.takeWhile_append_dropWhile
theorem mem_takeWhile {α : Type} {P : α → Bool} {l : List α} {r : α} (h : r ∈ l.takeWhile P) : P r = true := by
  induction l with
  | nil => simp at h
  | cons a t ih =>
    rw [List.takeWhile_cons] at h
    split at h
    · rename_i hp
      rcases List.mem_cons.1 h with rfl | h
      · exact hp
      · exact ih h
    · simp at h
theorem head_dropWhile {α : Type} {P : α → Bool} {l t : List α} {r : α} (h : l.dropWhile P = r :: t) : P r = false := by
  induction l with
  | nil => simp at h
  | cons a u ih =>
    rw [List.dropWhile_cons] at h
    split at h
    · exact ih h
    · rename_i hp
      cases h
      simpa using hp
theorem ahead_lt {s : List Rg} {x : Int} : ∀ r ∈ aheadL s x, r.hi < x := fun r hr => by simpa using mem_takeWhile hr
theorem cut_ok {p : Int} {s : List Rg} (x y : Int) (h : okFrom p s = true) : okFrom p (aheadL s x) = true ∧ okFrom (lastHi p (aheadL s x)) (metL s x y) = true ∧ okFrom (lastHi (lastHi p (aheadL s x)) (metL s x y)) (behindL s x y) = true := by
  rw [← cut_all s x y, okFrom_append, okFrom_append] at h
  exact h
theorem rest_ok {p : Int} {s : List Rg} (x : Int) (h : okFrom p s = true) : okFrom (lastHi p (aheadL s x)) (restL s x) = true := by
  have e : aheadL s x ++ restL s x = s := List.takeWhile_append_dropWhile
  rw [← e, okFrom_append] at h
  exact h.2
theorem rest_ge {p : Int} {s : List Rg} {x : Int} (h : okFrom p s = true) : ∀ r ∈ restL s x, x ≤ r.hi := by
  have hr := rest_ok x h
  cases e : restL s x with
  | nil => intro r hr; simp at hr
  | cons u t =>
    rw [e, okFrom_cons] at hr
    have hu : ¬ u.hi < x := by simpa using head_dropWhile (show s.dropWhile (fun r => decide (r.hi < x)) = u :: t from e)
    intro r hm
    rcases List.mem_cons.1 hm with rfl | hm
    · omega
    · have := okFrom_each hr.2.2.2.2 r hm
      omega
theorem met_in {p : Int} {s : List Rg} {x y : Int} (h : okFrom p s = true) : ∀ r ∈ metL s x y, r.lo ≤ y ∧ x ≤ r.hi := by
  intro r hr
  refine ⟨by simpa using mem_takeWhile hr, rest_ge h r ?_⟩
  exact (List.takeWhile_sublist _).subset hr
theorem behind_gt {p : Int} {s : List Rg} {x y : Int} (h : okFrom p s = true) : ∀ r ∈ behindL s x y, y < r.lo := by
  have hb := (cut_ok x y h).2.2
  cases e : behindL s x y with
  | nil => intro r hr; simp at hr
  | cons u t =>
    rw [e, okFrom_cons] at hb
    have hu : ¬ u.lo ≤ y := by simpa using head_dropWhile (show (restL s x).dropWhile (fun r => decide (r.lo ≤ y)) = u :: t from e)
    intro r hm
    rcases List.mem_cons.1 hm with rfl | hm
    · omega
    · have := okFrom_each hb.2.2.2.2 r hm
      omega

/- ADDED. -/
def spanTo (r : Rg) (m : Rg) : Rg := ⟨min r.lo m.lo, max r.hi m.hi⟩
def spanL (r : Rg) (l : List Rg) : Rg := l.foldl spanTo r
theorem span_in {r : Rg} {l : List Rg} : (spanL r l).lo ≤ r.lo ∧ r.hi ≤ (spanL r l).hi ∧ (∀ m ∈ l, (spanL r l).lo ≤ m.lo ∧ m.hi ≤ (spanL r l).hi) ∧
    ((spanL r l).lo = r.lo ∨ ∃ m ∈ l, (spanL r l).lo = m.lo) ∧ ((spanL r l).hi = r.hi ∨ ∃ m ∈ l, (spanL r l).hi = m.hi) := by
  induction l generalizing r with
  | nil => exact ⟨Int.le_refl _, Int.le_refl _, fun m hm => by simp at hm, .inl rfl, .inl rfl⟩
  | cons u t ih =>
    have h := @ih (spanTo r u)
    have e : spanL r (u :: t) = spanL (spanTo r u) t := rfl
    rw [e]
    generalize spanL (spanTo r u) t = s at *
    obtain ⟨h1, h2, h3, h4, h5⟩ := h
    have a1 : (spanTo r u).lo = min r.lo u.lo := rfl
    have a2 : (spanTo r u).hi = max r.hi u.hi := rfl
    rw [a1] at h1 h4
    rw [a2] at h2 h5
    clear a1 a2 e ih
    refine ⟨by clear h3 h4 h5; omega, by clear h3 h4 h5; omega, fun m hm => ?_, ?_, ?_⟩
    · rcases List.mem_cons.1 hm with rfl | hm
      · clear h3 h4 h5; omega
      · exact h3 m hm
    · clear h5 h3
      rcases h4 with h4 | ⟨m, hm, h4⟩
      · by_cases hl : r.lo ≤ u.lo
        · exact .inl (by omega)
        · exact .inr ⟨u, by simp, by omega⟩
      · exact .inr ⟨m, by simp [hm], h4⟩
    · clear h4 h3
      rcases h5 with h5 | ⟨m, hm, h5⟩
      · by_cases hl : u.hi ≤ r.hi
        · exact .inl (by omega)
        · exact .inr ⟨u, by simp, by omega⟩
      · exact .inr ⟨m, by simp [hm], h5⟩
def addedL (s : List Rg) (lo hi : Int) : List Rg := aheadL s (lo - 1) ++ ([spanL ⟨lo, hi⟩ (metL s (lo - 1) (hi + 1))] ++ behindL s (lo - 1) (hi + 1))
theorem added_ok {s : List Rg} {lo hi : Int} (h : okFrom (-1) s = true) (h1 : 1 ≤ lo) (h2 : lo ≤ hi) (h3 : hi ≤ 9999) : okFrom (-1) (addedL s lo hi) = true := by
  obtain ⟨o1, o2, o3⟩ := cut_ok (lo - 1) (hi + 1) h
  obtain ⟨s1, s2, s3, s4, s5⟩ := @span_in ⟨lo, hi⟩ (metL s (lo - 1) (hi + 1))
  have hA := lastHi_le (p := -1) (q := lo - 2) (by omega) (fun r hr => by have := ahead_lt (s := s) (x := lo - 1) r hr; omega)
  have hM := okFrom_each o2
  have hB := behind_gt (x := lo - 1) (y := hi + 1) h
  have hB2 := okFrom_each o3
  have hL := (le_lastHi o2).2
  unfold addedL
  rw [okFrom_append]
  refine ⟨o1, ?_⟩
  rw [List.singleton_append, okFrom_cons]
  generalize spanL ⟨lo, hi⟩ (metL s (lo - 1) (hi + 1)) = u at *
  simp only at s1 s2 s4 s5
  have hlo : 1 ≤ u.lo ∧ lastHi (-1) (aheadL s (lo - 1)) + 1 < u.lo := by
    rcases s4 with s4 | ⟨m, hm, s4⟩
    · omega
    · have := hM m hm; omega
  have hhi : u.hi ≤ 9999 ∧ ∀ r ∈ behindL s (lo - 1) (hi + 1), u.hi + 1 < r.lo := by
    rcases s5 with s5 | ⟨m, hm, s5⟩
    · exact ⟨by omega, fun r hr => by have := hB r hr; omega⟩
    · exact ⟨by have := hM m hm; omega, fun r hr => by have := hB2 r hr; have := hL m hm; omega⟩
  exact ⟨hlo.1, by omega, hhi.1, hlo.2, okFrom_from o3 hhi.2⟩
theorem added_has {s : List Rg} {lo hi : Int} (h : okFrom (-1) s = true) (h2 : lo ≤ hi) (n : Int) : hasB (addedL s lo hi) n = (decide (lo ≤ n ∧ n ≤ hi) || hasB s n) := by
  obtain ⟨s1, s2, s3, s4, s5⟩ := @span_in ⟨lo, hi⟩ (metL s (lo - 1) (hi + 1))
  have hI := met_in (x := lo - 1) (y := hi + 1) h
  have e : hasB s n = (hasB (aheadL s (lo - 1)) n || (hasB (metL s (lo - 1) (hi + 1)) n || hasB (behindL s (lo - 1) (hi + 1)) n)) := by
    rw [← hasB_append, ← hasB_append, cut_all]
  rw [e]
  unfold addedL
  rw [hasB_append, hasB_append]
  have k : hasB [spanL ⟨lo, hi⟩ (metL s (lo - 1) (hi + 1))] n = (decide (lo ≤ n ∧ n ≤ hi) || hasB (metL s (lo - 1) (hi + 1)) n) := by
    generalize spanL ⟨lo, hi⟩ (metL s (lo - 1) (hi + 1)) = u at *
    simp only at s1 s2 s4 s5
    apply hasB_ext
    rw [Bool.or_eq_true, hasB_iff, decide_eq_true_iff]
    constructor
    · rintro ⟨r, hr, a, b⟩
      rw [List.mem_singleton] at hr
      subst hr
      by_cases c1 : lo ≤ n
      · by_cases c2 : n ≤ hi
        · exact .inl ⟨c1, c2⟩
        · rcases s5 with s5 | ⟨m, hm, s5⟩
          · omega
          · exact .inr ⟨m, hm, by have := hI m hm; omega, by omega⟩
      · rcases s4 with s4 | ⟨m, hm, s4⟩
        · omega
        · exact .inr ⟨m, hm, by omega, by have := hI m hm; omega⟩
    · rintro (hx | ⟨m, hm, a, b⟩)
      · exact ⟨u, by simp, by omega, by omega⟩
      · exact ⟨u, by simp, by have := s3 m hm; omega, by have := s3 m hm; omega⟩
  rw [k]
  cases hasB (aheadL s (lo - 1)) n <;> cases hasB (metL s (lo - 1) (hi + 1)) n <;> cases hasB (behindL s (lo - 1) (hi + 1)) n <;> cases decide (lo ≤ n ∧ n ≤ hi) <;> rfl

/- A SET, EACH RANGE TURNED INTO SOME WITHIN IT. -/
theorem okFrom_flat (f : Rg → List Rg) : ∀ (l : List Rg) (p : Int), okFrom p l = true → (∀ r ∈ l, ∀ q, q + 1 < r.lo → okFrom q (f r) = true ∧ lastHi q (f r) ≤ r.hi) → okFrom p (l.flatMap f) = true := by
  intro l
  induction l with
  | nil => intro p _ _; rfl
  | cons u t ih =>
    intro p h hf
    rw [okFrom_cons] at h
    rw [List.flatMap_cons, okFrom_append]
    have hu := hf u (by simp) p h.2.2.2.1
    exact ⟨hu.1, okFrom_mono (ih u.hi h.2.2.2.2 (fun r hr => hf r (by simp [hr]))) hu.2⟩
def withR (l : List Rg) (r : Rg) : List Rg := if r.hi < r.lo then l else l ++ [r]
def piecesL (lo hi : Int) (m : Rg) : List Rg := withR (withR [] ⟨m.lo, lo - 1⟩) ⟨hi + 1, m.hi⟩
theorem withR_append (a b : List Rg) (r : Rg) : withR (a ++ b) r = a ++ withR b r := by unfold withR; split <;> simp
theorem pieces_step (l : List Rg) (lo hi : Int) (m : Rg) : withR (withR l ⟨m.lo, lo - 1⟩) ⟨hi + 1, m.hi⟩ = l ++ piecesL lo hi m := by
  unfold piecesL
  rw [← withR_append, ← withR_append, List.append_nil]
theorem withR_length (l : List Rg) (r : Rg) : (withR l r).length ≤ l.length + 1 := by unfold withR; split <;> simp
theorem pieces_length (lo hi : Int) (m : Rg) : (piecesL lo hi m).length ≤ 2 := by
  unfold piecesL
  have h1 := withR_length (withR [] ⟨m.lo, lo - 1⟩) ⟨hi + 1, m.hi⟩
  have h2 := withR_length [] ⟨m.lo, lo - 1⟩
  simp at h2
  omega
def cutR (lo hi : Int) (r : Rg) : List Rg := if r.hi < lo ∨ hi < r.lo then [r] else piecesL lo hi r
theorem flat_same {f : Rg → List Rg} : ∀ {l : List Rg}, (∀ r ∈ l, f r = [r]) → l.flatMap f = l := by
  intro l
  induction l with
  | nil => intro _; rfl
  | cons u t ih => intro h; rw [List.flatMap_cons, h u (by simp), ih (fun r hr => h r (by simp [hr]))]; rfl
theorem flat_eq {f g : Rg → List Rg} : ∀ {l : List Rg}, (∀ r ∈ l, f r = g r) → l.flatMap f = l.flatMap g := by
  intro l
  induction l with
  | nil => intro _; rfl
  | cons u t ih => intro h; rw [List.flatMap_cons, List.flatMap_cons, h u (by simp), ih (fun r hr => h r (by simp [hr]))]
def droppedL (s : List Rg) (lo hi : Int) : List Rg := aheadL s lo ++ ((metL s lo hi).flatMap (piecesL lo hi) ++ behindL s lo hi)
theorem dropped_is {s : List Rg} {lo hi : Int} (h : okFrom (-1) s = true) : droppedL s lo hi = s.flatMap (cutR lo hi) := by
  have e : s.flatMap (cutR lo hi) = (aheadL s lo ++ (metL s lo hi ++ behindL s lo hi)).flatMap (cutR lo hi) := by rw [cut_all]
  rw [e, List.flatMap_append, List.flatMap_append]
  unfold droppedL
  rw [flat_same (l := aheadL s lo) (fun r hr => by unfold cutR; rw [if_pos (.inl (ahead_lt r hr))]),
    flat_same (l := behindL s lo hi) (fun r hr => by unfold cutR; rw [if_pos (.inr (behind_gt h r hr))]),
    flat_eq (l := metL s lo hi) (g := cutR lo hi) (fun r hr => by unfold cutR; rw [if_neg (by have := met_in h r hr; omega)])]
theorem cutR_in {lo hi : Int} (h2 : lo ≤ hi) {r : Rg} (a : 1 ≤ r.lo) (b : r.lo ≤ r.hi) (c : r.hi ≤ 9999) (hl : 1 ≤ lo) (hh : hi ≤ 9999) (q : Int) (hq : q + 1 < r.lo) : okFrom q (cutR lo hi r) = true ∧ lastHi q (cutR lo hi r) ≤ r.hi := by
  unfold cutR
  split
  · exact ⟨by rw [okFrom_cons]; exact ⟨a, b, c, hq, rfl⟩, by rw [lastHi_cons, lastHi_nil]; exact Int.le_refl _⟩
  · rename_i hn
    unfold piecesL withR
    by_cases c1 : lo - 1 < r.lo
    · by_cases c2 : r.hi < hi + 1
      · simp only [if_pos c1, if_pos c2]
        exact ⟨rfl, by rw [lastHi_nil]; omega⟩
      · simp only [if_pos c1, if_neg c2, List.nil_append]
        exact ⟨by rw [okFrom_cons]; exact ⟨by simp only; omega, by simp only; omega, by simp only; omega, by simp only; omega, rfl⟩, by rw [lastHi_cons, lastHi_nil]; exact Int.le_refl _⟩
    · by_cases c2 : r.hi < hi + 1
      · simp only [if_neg c1, if_pos c2, List.nil_append]
        exact ⟨by rw [okFrom_cons]; exact ⟨by simp only; omega, by simp only; omega, by simp only; omega, by simp only; omega, rfl⟩, by rw [lastHi_cons, lastHi_nil]; simp only; omega⟩
      · simp only [if_neg c1, if_neg c2, List.nil_append, List.singleton_append]
        exact ⟨by rw [okFrom_cons, okFrom_cons]; exact ⟨by simp only; omega, by simp only; omega, by simp only; omega, by simp only; omega, by simp only; omega, by simp only; omega, by simp only; omega, by simp only; omega, rfl⟩, by rw [lastHi_cons, lastHi_cons, lastHi_nil]; exact Int.le_refl _⟩
theorem cutR_has {lo hi : Int} (h2 : lo ≤ hi) (r : Rg) (n : Int) : hasB (cutR lo hi r) n = ((decide (r.lo ≤ n) && decide (n ≤ r.hi)) && !decide (lo ≤ n ∧ n ≤ hi)) := by
  apply hasB_ext
  have hd : ((decide (r.lo ≤ n) && decide (n ≤ r.hi)) && !decide (lo ≤ n ∧ n ≤ hi)) = true ↔ (r.lo ≤ n ∧ n ≤ r.hi) ∧ ¬ (lo ≤ n ∧ n ≤ hi) := by simp only [Bool.and_eq_true, decide_eq_true_eq, Bool.not_eq_true', decide_eq_false_iff_not]
  rw [hd]
  unfold cutR
  split
  · rename_i hc
    constructor
    · rintro ⟨m, hm, a, b⟩
      rw [List.mem_singleton] at hm
      subst hm
      exact ⟨⟨a, b⟩, by omega⟩
    · rintro ⟨a, b⟩
      exact ⟨r, by simp, a⟩
  · rename_i hn
    unfold piecesL withR
    constructor
    · rintro ⟨m, hm, a, b⟩
      by_cases c1 : lo - 1 < r.lo
      · by_cases c2 : r.hi < hi + 1
        · simp only [if_pos c1, if_pos c2] at hm; simp at hm
        · simp only [if_pos c1, if_neg c2, List.nil_append, List.mem_singleton] at hm
          subst hm; simp only at a b; omega
      · by_cases c2 : r.hi < hi + 1
        · simp only [if_neg c1, if_pos c2, List.nil_append, List.mem_singleton] at hm
          subst hm; simp only at a b; omega
        · simp only [if_neg c1, if_neg c2, List.nil_append, List.singleton_append, List.mem_cons, List.not_mem_nil, or_false] at hm
          rcases hm with rfl | rfl <;> (simp only at a b; omega)
    · rintro ⟨⟨a, b⟩, c⟩
      by_cases c1 : n < lo
      · by_cases c2 : r.hi < hi + 1
        · simp only [if_neg (show ¬ lo - 1 < r.lo by omega), if_pos c2]
          exact ⟨⟨r.lo, lo - 1⟩, by simp, a, by simp only; omega⟩
        · simp only [if_neg (show ¬ lo - 1 < r.lo by omega), if_neg c2]
          exact ⟨⟨r.lo, lo - 1⟩, by simp, a, by simp only; omega⟩
      · simp only [if_neg (show ¬ r.hi < hi + 1 by omega)]
        exact ⟨⟨hi + 1, r.hi⟩, by simp, by simp only; omega, b⟩
theorem dropped_ok {s : List Rg} {lo hi : Int} (h : okFrom (-1) s = true) (h1 : 1 ≤ lo) (h2 : lo ≤ hi) (h3 : hi ≤ 9999) : okFrom (-1) (droppedL s lo hi) = true := by
  rw [dropped_is h]
  refine okFrom_flat _ s _ h (fun r hr q hq => ?_)
  have := okFrom_each h r hr
  exact cutR_in h2 this.2.1 this.2.2.1 this.2.2.2 h1 h3 q hq
theorem any_and {l : List Rg} {P Q : Rg → Bool} {c : Bool} (h : ∀ r, P r = (Q r && c)) : l.any P = (l.any Q && c) := by
  induction l with
  | nil => rfl
  | cons u t ih => rw [List.any_cons, List.any_cons, ih, h]; cases Q u <;> cases t.any Q <;> cases c <;> rfl
theorem dropped_has {s : List Rg} {lo hi : Int} (h : okFrom (-1) s = true) (h2 : lo ≤ hi) (n : Int) : hasB (droppedL s lo hi) n = (hasB s n && !decide (lo ≤ n ∧ n ≤ hi)) := by
  rw [dropped_is h, hasB_flat]
  exact any_and (fun r => cutR_has h2 r n)

/- MET. -/
def interR (x m : Rg) : Rg := ⟨max x.lo m.lo, min x.hi m.hi⟩
def meetL (a b : List Rg) : List Rg := a.flatMap fun x => (metL b x.lo x.hi).map (interR x)
theorem inter_ok (x : Rg) (hx : 1 ≤ x.lo) (hx2 : x.lo ≤ x.hi) (hx3 : x.hi ≤ 9999) : ∀ (l : List Rg) (p q : Int), okFrom q l = true → (∀ m ∈ l, m.lo ≤ x.hi ∧ x.lo ≤ m.hi) → (∀ m ∈ l, p + 1 < max x.lo m.lo) → okFrom p (l.map (interR x)) = true := by
  intro l
  induction l with
  | nil => intro p q _ _ _; rfl
  | cons u t ih =>
    intro p q h h1 h2
    rw [okFrom_cons] at h
    have hu := h1 u (by simp)
    have hp := h2 u (by simp)
    rw [List.map_cons, okFrom_cons]
    unfold interR
    simp only
    refine ⟨by omega, by omega, by omega, hp, ?_⟩
    refine ih _ u.hi h.2.2.2.2 (fun m hm => h1 m (by simp [hm])) (fun m hm => ?_)
    have := okFrom_each h.2.2.2.2 m hm
    omega
theorem meet_ok {a b : List Rg} (ha : okFrom (-1) a = true) (hb : okFrom (-1) b = true) : okFrom (-1) (meetL a b) = true := by
  refine okFrom_flat _ a _ ha (fun x hx q hq => ?_)
  have hr := okFrom_each ha x hx
  have hm := (cut_ok x.lo x.hi hb).2.1
  refine ⟨inter_ok x hr.2.1 hr.2.2.1 hr.2.2.2 _ _ _ hm (met_in hb) (fun m _ => by omega), lastHi_le (by omega) (fun r hr => ?_)⟩
  obtain ⟨m, _, rfl⟩ := List.mem_map.1 hr
  unfold interR
  simp only
  omega
theorem meet_each {b : List Rg} (hb : okFrom (-1) b = true) (x : Rg) (n : Int) : hasB ((metL b x.lo x.hi).map (interR x)) n = ((decide (x.lo ≤ n) && decide (n ≤ x.hi)) && hasB b n) := by
  apply hasB_ext
  have hd : ((decide (x.lo ≤ n) && decide (n ≤ x.hi)) && hasB b n) = true ↔ (x.lo ≤ n ∧ n ≤ x.hi) ∧ ∃ r ∈ b, r.lo ≤ n ∧ n ≤ r.hi := by rw [← hasB_iff]; simp
  rw [hd]
  constructor
  · rintro ⟨r, hr, h1, h2⟩
    obtain ⟨m, hm, rfl⟩ := List.mem_map.1 hr
    unfold interR at h1 h2
    simp only at h1 h2
    refine ⟨by omega, m, ?_, by omega, by omega⟩
    rw [← cut_all b x.lo x.hi]
    simp [hm]
  · rintro ⟨⟨h1, h2⟩, r, hr, h3, h4⟩
    rw [← cut_all b x.lo x.hi, List.mem_append, List.mem_append] at hr
    rcases hr with hr | hr | hr
    · have := ahead_lt r hr; omega
    · refine ⟨interR x r, List.mem_map.2 ⟨r, hr, rfl⟩, ?_, ?_⟩ <;> (unfold interR; simp only; omega)
    · have := behind_gt hb r hr; omega
theorem meet_has {a b : List Rg} (hb : okFrom (-1) b = true) (n : Int) : hasB (meetL a b) n = (hasB a n && hasB b n) := by
  unfold meetL
  rw [hasB_flat]
  exact any_and (fun x => meet_each hb x n)

/- UNITED. -/
def uniteTo (out : List Rg) (r : Rg) : List Rg :=
  match out.getLast? with
  | some u => if r.lo ≤ u.hi + 1 then out.dropLast ++ [⟨u.lo, max u.hi r.hi⟩] else out ++ [r]
  | none => out ++ [r]
theorem uniteTo_nil (r : Rg) : uniteTo [] r = [r] := rfl
theorem uniteTo_in {o : List Rg} {u r : Rg} (h : r.lo ≤ u.hi + 1) : uniteTo (o ++ [u]) r = o ++ [⟨u.lo, max u.hi r.hi⟩] := by unfold uniteTo; simp [h]
theorem uniteTo_new {o : List Rg} {u r : Rg} (h : ¬ r.lo ≤ u.hi + 1) : uniteTo (o ++ [u]) r = o ++ [u] ++ [r] := by unfold uniteTo; simp [h]
def unitedL (l : List Rg) : List Rg := l.foldl uniteTo []
def rightR (r : Rg) : Prop := 1 ≤ r.lo ∧ r.lo ≤ r.hi ∧ r.hi ≤ 9999
theorem snoc_cases (l : List Rg) : l = [] ∨ ∃ o u, l = o ++ [u] := by
  rcases List.eq_nil_or_concat l with h | ⟨o, u, h⟩
  · exact .inl h
  · exact .inr ⟨o, u, by simpa using h⟩
theorem united_inv : ∀ (l out : List Rg), okFrom (-1) out = true → (∀ r ∈ l, rightR r) → l.Pairwise (fun x y => x.lo ≤ y.lo) → (∀ u ∈ out, ∀ r ∈ l, u.lo ≤ r.lo) →
    okFrom (-1) (l.foldl uniteTo out) = true ∧ ∀ n, hasB (l.foldl uniteTo out) n = (hasB out n || hasB l n) := by
  intro l
  induction l with
  | nil => intro out h _ _ _; exact ⟨h, fun n => by rw [List.foldl_nil, hasB_nil, Bool.or_false]⟩
  | cons r t ih =>
    intro out h hr hp ho
    rw [List.foldl_cons]
    have hrr := hr r (by simp)
    obtain ⟨r1, r2, r3⟩ := hrr
    have hpt := List.pairwise_cons.1 hp
    rcases snoc_cases out with rfl | ⟨o, u, rfl⟩
    · rw [uniteTo_nil]
      have := ih [r] (by rw [okFrom_cons]; exact ⟨r1, r2, r3, by omega, rfl⟩) (fun x hx => hr x (by simp [hx])) hpt.2 (fun x hx y hy => by rw [List.mem_singleton] at hx; subst hx; exact hpt.1 y hy)
      refine ⟨this.1, fun n => ?_⟩
      rw [this.2 n, hasB_cons r t, hasB_cons r [], hasB_nil]
      simp
    · have hs := okFrom_snoc.1 h
      have hur := ho u (by simp) r (by simp)
      by_cases c : r.lo ≤ u.hi + 1
      · rw [uniteTo_in c]
        have := ih (o ++ [⟨u.lo, max u.hi r.hi⟩]) (okFrom_snoc.2 ⟨hs.1, hs.2.1, by simp only; omega, by simp only; omega, hs.2.2.2.2⟩) (fun x hx => hr x (by simp [hx])) hpt.2 (fun x hx y hy => ?_)
        · refine ⟨this.1, fun n => ?_⟩
          rw [this.2 n, hasB_cons r t, hasB_append, hasB_append, hasB_cons, hasB_cons u [], hasB_nil]
          simp only
          have : (decide (u.lo ≤ n) && decide (n ≤ max u.hi r.hi)) = ((decide (u.lo ≤ n) && decide (n ≤ u.hi)) || (decide (r.lo ≤ n) && decide (n ≤ r.hi))) := by
            rw [Bool.eq_iff_iff]
            simp only [Bool.and_eq_true, Bool.or_eq_true, decide_eq_true_eq]
            omega
          rw [this]
          cases hasB o n <;> cases hasB t n <;> cases (decide (u.lo ≤ n) && decide (n ≤ u.hi)) <;> cases (decide (r.lo ≤ n) && decide (n ≤ r.hi)) <;> rfl
        · rcases List.mem_append.1 hx with hx | hx
          · exact ho x (by simp [hx]) y (by simp [hy])
          · rw [List.mem_singleton] at hx
            subst hx
            exact ho u (by simp) y (by simp [hy])
      · rw [uniteTo_new c]
        have := ih (o ++ [u] ++ [r]) (okFrom_snoc.2 ⟨h, r1, r2, r3, by rw [lastHi_snoc]; omega⟩) (fun x hx => hr x (by simp [hx])) hpt.2 (fun x hx y hy => ?_)
        · refine ⟨this.1, fun n => ?_⟩
          rw [this.2 n, hasB_cons r t, hasB_append (o ++ [u]) [r], hasB_cons r [], hasB_nil, Bool.or_false, Bool.or_assoc]
        · rcases List.mem_append.1 hx with hx | hx
          · exact ho x hx y (by simp [hy])
          · rw [List.mem_singleton] at hx
            subst hx
            exact hpt.1 y hy
theorem united_ok {l : List Rg} (h : ∀ r ∈ l, rightR r) (hp : l.Pairwise (fun x y => x.lo ≤ y.lo)) : okFrom (-1) (unitedL l) = true ∧ ∀ n, hasB (unitedL l) n = hasB l n := by
  have := united_inv l [] rfl h hp (fun u hu => by simp at hu)
  exact ⟨this.1, fun n => by rw [show unitedL l = l.foldl uniteTo [] from rfl, this.2 n, hasB_nil, Bool.false_or]⟩
theorem hasB_perm {l m : List Rg} (h : l.Perm m) (n : Int) : hasB l n = hasB m n := by
  rw [Bool.eq_iff_iff, hasB_iff, hasB_iff]
  constructor
  · rintro ⟨r, hr, hx⟩; exact ⟨r, h.mem_iff.1 hr, hx⟩
  · rintro ⟨r, hr, hx⟩; exact ⟨r, h.mem_iff.2 hr, hx⟩

/- WHAT IS ANSWERED. -/
theorem okS_len {t : List Rg} (h : okFrom (-1) t = true) : okS t = decide (t.length ≤ 40) := by unfold okS; rw [h, Bool.true_and]
theorem putV_no {s : List Rg} {lo hi : Int} {c : Bool} (h : ¬ (okS s = true ∧ 1 ≤ lo ∧ lo ≤ hi ∧ hi ≤ 9999)) : putV s lo hi c = (s, false) := if_neg h
theorem putV_is {s t : List Rg} {lo hi : Int} {c : Bool} (h : okS s = true ∧ 1 ≤ lo ∧ lo ≤ hi ∧ hi ≤ 9999) (ht : okFrom (-1) t = true) (hb : ∀ n, hasB t n = if lo ≤ n ∧ n ≤ hi then c else hasB s n) :
    putV s lo hi c = if okS t = true then (t, true) else (s, false) := by
  have hs : okFrom (-1) s = true := by have h1 := h.1; unfold okS at h1; rw [Bool.and_eq_true] at h1; exact h1.1
  have h0 : putB s lo hi c 0 = false := by
    unfold putB
    rw [if_neg (by simp; omega)]
    exact bitsOf_zero hs
  have e : t = setOf (putB s lo hi c) := setOf_is h0 ht (fun m h1 h2 => by
    rw [hb m]
    unfold putB bitsOf
    rw [Int.toNat_of_nonneg (by omega)])
  unfold putV
  rw [if_pos h, ← e, okS_len ht]
  by_cases hl : t.length ≤ 40
  · rw [if_pos hl, if_pos (by simpa using hl)]
  · rw [if_neg hl, if_neg (by simpa using hl)]
theorem put_added {s : List Rg} {lo hi : Int} (h : okS s = true ∧ 1 ≤ lo ∧ lo ≤ hi ∧ hi ≤ 9999) : putV s lo hi true = if okS (addedL s lo hi) = true then (addedL s lo hi, true) else (s, false) := by
  have hs : okFrom (-1) s = true := by have h1 := h.1; unfold okS at h1; rw [Bool.and_eq_true] at h1; exact h1.1
  refine putV_is h (added_ok hs h.2.1 h.2.2.1 h.2.2.2) (fun n => ?_)
  rw [added_has hs h.2.2.1]
  split
  · rename_i hn; rw [decide_eq_true hn]; rfl
  · rename_i hn; rw [decide_eq_false hn]; rfl
theorem put_dropped {s : List Rg} {lo hi : Int} (h : okS s = true ∧ 1 ≤ lo ∧ lo ≤ hi ∧ hi ≤ 9999) : putV s lo hi false = if okS (droppedL s lo hi) = true then (droppedL s lo hi, true) else (s, false) := by
  have hs : okFrom (-1) s = true := by have h1 := h.1; unfold okS at h1; rw [Bool.and_eq_true] at h1; exact h1.1
  refine putV_is h (dropped_ok hs h.2.1 h.2.2.1 h.2.2.2) (fun n => ?_)
  rw [dropped_has hs h.2.2.1]
  split
  · rename_i hn; rw [decide_eq_true hn]; simp
  · rename_i hn; rw [decide_eq_false hn]; simp
/-- A right row, or nothing where it is too long. -/
def orNo (t : List Rg) : List Rg × Bool := if okS t = true then (t, true) else ([], false)
theorem setV_is {b : Nat → Bool} {t : List Rg} (h0 : b 0 = false) (ht : okFrom (-1) t = true) (hb : ∀ m : Int, 1 ≤ m → m ≤ 9999 → hasB t m = b m.toNat) : setV b = orNo t := by
  have e : t = setOf b := setOf_is h0 ht hb
  unfold setV orNo
  rw [← e, okS_len ht]
  by_cases hl : t.length ≤ 40
  · rw [if_pos hl, if_pos (by simpa using hl)]
  · rw [if_neg hl, if_neg (by simpa using hl)]
theorem two_no {a b : List Rg} {c : Bool} (h : ¬ (okS a = true ∧ okS b = true)) : twoV a b c = ([], false) := if_neg h
theorem okS_from {s : List Rg} (h : okS s = true) : okFrom (-1) s = true := by unfold okS at h; rw [Bool.and_eq_true] at h; exact h.1
theorem two_meet {a b : List Rg} (ha : okS a = true) (hb : okS b = true) : twoV a b true = orNo (meetL a b) := by
  have h1 := okS_from ha
  have h2 := okS_from hb
  unfold twoV
  rw [if_pos ⟨ha, hb⟩]
  refine setV_is ?_ (meet_ok h1 h2) (fun m hm _ => ?_)
  · unfold twoB; rw [if_pos rfl, bitsOf_zero h1]; rfl
  · rw [meet_has h2]; unfold twoB bitsOf; rw [if_pos rfl, Int.toNat_of_nonneg (by omega)]
theorem two_join {a b l : List Rg} (ha : okS a = true) (hb : okS b = true) (hl : l.Perm (a ++ b)) (hp : l.Pairwise (fun x y => x.lo ≤ y.lo)) : twoV a b false = orNo (unitedL l) := by
  have h1 := okS_from ha
  have h2 := okS_from hb
  have hr : ∀ r ∈ l, rightR r := fun r hr => by
    rcases List.mem_append.1 (hl.mem_iff.1 hr) with h | h
    · exact (okFrom_each h1 r h).2
    · exact (okFrom_each h2 r h).2
  have hu := united_ok hr hp
  unfold twoV
  rw [if_pos ⟨ha, hb⟩]
  refine setV_is ?_ hu.1 (fun m hm _ => ?_)
  · unfold twoB; rw [if_neg (by decide), bitsOf_zero h1, bitsOf_zero h2]; rfl
  · rw [hu.2, hasB_perm hl, hasB_append]; unfold twoB bitsOf; rw [if_neg (by decide), Int.toNat_of_nonneg (by omega)]
end Go.Proofs.YtkmphclmealkeaaGreatDoor.Plain
