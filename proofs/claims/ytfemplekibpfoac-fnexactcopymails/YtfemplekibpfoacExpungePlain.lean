/- Boxes, plainly: those that are told to go. Nothing of the program stands here. -/
import Derived.Test.YtfemplekibpfoacFlagsFit
namespace Go.Proofs.Ytfemplekibpfoac.Plain
open Go.RowKit
set_option linter.unusedVariables false

def isGone (s : List Rg) (m : Ml) : Bool := hasB s m.uid && decide (0 < andTo m.flags 8 5)
def goneM (s : List Rg) (l : List Ml) : List Int := (l.filter (isGone s)).map (·.uid)
def leftM (s : List Rg) (l : List Ml) : List Ml := l.filter (fun m => !isGone s m)
def tombsOf (b : Bx) (us : List Int) : List Tb := us.map (fun u => ⟨u, b.mod + 1⟩)
/-- As long as there are too many, those of the least count go. -/
def trimS : Nat → List Tb × Int → List Tb × Int
  | 0, x => x
  | n + 1, x => if x.1.length ≤ 40 then x else trimS n (match x.1 with | [] => x | t :: r => ((t :: r).dropWhile (fun y => decide (y.mod ≤ t.mod)), t.mod))
def trimmed (ts : List Tb) (hor : Int) : List Tb × Int := trimS ts.length (ts, hor)
theorem drop_less (t : Tb) (r : List Tb) : ((t :: r).dropWhile (fun y => decide (y.mod ≤ t.mod))).length ≤ r.length := by
  rw [List.dropWhile_cons_of_pos (by simp)]
  exact (List.dropWhile_sublist _).length_le
theorem trimS_more : ∀ (n m : Nat) (ts : List Tb) (hor : Int), ts.length ≤ n → ts.length ≤ m → trimS n (ts, hor) = trimS m (ts, hor) := by
  intro n
  induction n with
  | zero =>
    intro m ts hor h1 h2
    have : ts = [] := List.length_eq_zero_iff.1 (by omega)
    subst this
    cases m <;> simp [trimS]
  | succ n ih =>
    intro m ts hor h1 h2
    cases m with
    | zero =>
      have : ts = [] := List.length_eq_zero_iff.1 (by omega)
      subst this
      simp [trimS]
    | succ m =>
      unfold trimS
      split
      · rfl
      · cases ts with
        | nil => rename_i h; simp at h
        | cons t r =>
          have := drop_less t r
          simp only [List.length_cons] at h1 h2
          exact ih m _ _ (by omega) (by omega)
theorem trimmed_in {ts : List Tb} {hor : Int} (h : ts.length ≤ 40) : trimmed ts hor = (ts, hor) := by
  unfold trimmed
  cases hn : ts.length with
  | zero => rfl
  | succ n => unfold trimS; rw [if_pos (by omega)]
theorem trimmed_on {t : Tb} {r : List Tb} {hor : Int} (h : ¬ (t :: r).length ≤ 40) : trimmed (t :: r) hor = trimmed ((t :: r).dropWhile (fun y => decide (y.mod ≤ t.mod))) t.mod := by
  have hd := drop_less t r
  unfold trimmed
  rw [show (t :: r).length = r.length + 1 from rfl]
  conv => lhs; unfold trimS
  rw [if_neg h]
  exact trimS_more _ _ _ _ hd (Nat.le_refl _)
def expBox (b : Bx) (s : List Rg) : Bx := { b with mails := leftM s b.mails, mod := b.mod + 1, tombs := (trimmed (b.tombs ++ tombsOf b (goneM s b.mails)) b.hor).1, hor := (trimmed (b.tombs ++ tombsOf b (goneM s b.mails)) b.hor).2 }
def expV (b : Bx) (s : List Rg) : Bx × List Rg :=
  if (boxOk b && okS s) = true ∧ goneM s b.mails ≠ [] ∧ boxOk (expBox b s) = true then (expBox b s, uidsV (goneM s b.mails)) else (b, [])
theorem expV_no1 {b : Bx} {s : List Rg} (h : (boxOk b && okS s) = false) : expV b s = (b, []) := if_neg (fun x => by rw [h] at x; cases x.1)
theorem expV_no2 {b : Bx} {s : List Rg} (h : goneM s b.mails = []) : expV b s = (b, []) := if_neg (fun x => x.2.1 h)
theorem expV_no3 {b : Bx} {s : List Rg} (h : boxOk (expBox b s) = false) : expV b s = (b, []) := if_neg (fun x => by rw [h] at x; cases x.2.2)
theorem expV_yes {b : Bx} {s : List Rg} (h1 : (boxOk b && okS s) = true) (h2 : goneM s b.mails ≠ []) (h3 : boxOk (expBox b s) = true) : expV b s = (expBox b s, uidsV (goneM s b.mails)) := if_pos ⟨h1, h2, h3⟩
theorem goneM_len (s : List Rg) (l : List Ml) : (goneM s l).length ≤ l.length := by unfold goneM; rw [List.length_map]; exact List.length_filter_le _ _
theorem leftM_len (s : List Rg) (l : List Ml) : (leftM s l).length ≤ l.length := List.length_filter_le _ _
theorem goneM_right {b : Bx} {s : List Rg} (h : boxOk b = true) : (goneM s b.mails).length ≤ 30 ∧ ∀ u ∈ goneM s b.mails, 1 ≤ u ∧ u ≤ 9999 := by
  have h30 : b.mails.length ≤ 30 := by
    have := (boxOk_iff.1 h).1
    unfold headOk at this
    simp only [Bool.and_eq_true, decide_eq_true_eq] at this
    exact this.2.2.2.2.1
  refine ⟨Nat.le_trans (goneM_len s b.mails) h30, fun u hu => ?_⟩
  obtain ⟨m, hm, rfl⟩ := List.mem_map.1 hu
  exact uids_right h m (List.mem_filter.1 hm).1
theorem uidsV_empty {l : List Int} (hl : l.length ≤ 40) (hu : ∀ u ∈ l, 1 ≤ u ∧ u ≤ 9999) : (uidsV l).length = 0 ↔ l = [] := by
  obtain ⟨i1, i2, i3⟩ := uidsV_inv l.length l rfl hl hu
  constructor
  · intro h
    cases l with
    | nil => rfl
    | cons u r =>
      have h0 : uidsV (u :: r) = [] := List.length_eq_zero_iff.1 h
      have := i3 u
      rw [h0] at this
      simp [hasB] at this
  · intro h
    subst h
    rfl
/-- Where counts ascend, those that go are at the beginning. -/
theorem filter_drop : ∀ (l : List Tb) (h : Int), l.Pairwise (fun x y => x.mod ≤ y.mod) → l.dropWhile (fun y => decide (y.mod ≤ h)) = l.filter (fun y => decide (h < y.mod)) := by
  intro l
  induction l with
  | nil => intro h _; rfl
  | cons t r ih =>
    intro h hp
    rw [List.pairwise_cons] at hp
    by_cases ht : t.mod ≤ h
    · rw [List.dropWhile_cons_of_pos (by simpa using ht), ih h hp.2, List.filter_cons_of_neg (by simp; omega)]
    · rw [List.dropWhile_cons_of_neg (by simpa using ht), List.filter_cons_of_pos (by simp; omega), List.filter_eq_self.2]
      intro x hx
      have := hp.1 x hx
      simp
      omega
/-- The same, as the program does it. -/
def trimI : Nat → List Tb × Int → List Tb × Int
  | 0, x => x
  | n + 1, x => if x.1.length ≤ 40 then x else trimI n (match x.1 with | [] => x | t :: r => ((t :: r).filter (fun y => decide (t.mod < y.mod)), if x.2 < t.mod then t.mod else x.2))
theorem trim_same : ∀ (n : Nat) (ts : List Tb) (hor : Int), ts.Pairwise (fun x y => x.mod ≤ y.mod) → (∀ t ∈ ts, hor < t.mod) → trimI n (ts, hor) = trimS n (ts, hor) := by
  intro n
  induction n with
  | zero => intro ts hor _ _; rfl
  | succ n ih =>
    intro ts hor hp hh
    unfold trimI trimS
    split
    · rfl
    · cases ts with
      | nil => rename_i h; simp at h
      | cons t r =>
        have h0 := hh t (by simp)
        show trimI n ((t :: r).filter (fun y => decide (t.mod < y.mod)), if hor < t.mod then t.mod else hor) = trimS n ((t :: r).dropWhile (fun y => decide (y.mod ≤ t.mod)), t.mod)
        rw [if_pos h0, filter_drop _ _ hp]
        exact ih _ _ (hp.filter _) (fun x hx => by have := (List.mem_filter.1 hx).2; simpa using this)
def goneTo8 (b : Bx) (s : List Rg) (k : Nat) : List Int := goneM s (b.mails.take k)
def leftTo8 (b : Bx) (s : List Rg) (k : Nat) : List Ml := leftM s (b.mails.take k)
theorem goneTo8_next {b : Bx} {s : List Rg} {k : Nat} {m : Ml} (h : b.mails[k]? = some m) : goneTo8 b s (k + 1) = if isGone s m = true then goneTo8 b s k ++ [m.uid] else goneTo8 b s k := by
  unfold goneTo8 goneM
  rw [List.take_add_one, h, List.filter_append, List.map_append]
  by_cases hn : isGone s m = true <;> simp [hn]
theorem leftTo8_next {b : Bx} {s : List Rg} {k : Nat} {m : Ml} (h : b.mails[k]? = some m) : leftTo8 b s (k + 1) = if isGone s m = true then leftTo8 b s k else leftTo8 b s k ++ [m] := by
  unfold leftTo8 leftM
  rw [List.take_add_one, h, List.filter_append]
  by_cases hn : isGone s m = true <;> simp [hn]
theorem goneTo8_len (b : Bx) (s : List Rg) (k : Nat) : (goneTo8 b s k).length ≤ b.mails.length := Nat.le_trans (goneM_len _ _) (by simp; omega)
theorem leftTo8_len (b : Bx) (s : List Rg) (k : Nat) : (leftTo8 b s k).length ≤ b.mails.length := Nat.le_trans (leftM_len _ _) (by simp; omega)
theorem goneTo8_all (b : Bx) (s : List Rg) : goneTo8 b s b.mails.length = goneM s b.mails := by unfold goneTo8; rw [List.take_length]
theorem leftTo8_all (b : Bx) (s : List Rg) : leftTo8 b s b.mails.length = leftM s b.mails := by unfold leftTo8; rw [List.take_length]
end Go.Proofs.Ytfemplekibpfoac.Plain
