/- Several texts in one. -/
import Derived.Test.YtlngjflhbkannaaGreatBoxP
import Derived.Test.YtlngjflhbkannaaGreatAddMailS
import Derived.Test.YtlngjflhbkannaaGreatForgetS
namespace Go.Proofs.YtlngjflhbkannaaGreat.Plain
open Go.RowKit
set_option linter.unusedVariables false

def isLate (s : List Rg) (since : Int) (m : Ml) : Bool := hasB s m.uid && (decide (0 ≤ since) && decide (since < m.mod))
def isNew (s : List Rg) (how bits since : Int) (m : Ml) : Bool := hasB s m.uid && (!(decide (0 ≤ since) && decide (since < m.mod)) && !(afterV m.flags how bits == m.flags))
def newM (b : Bx) (s : List Rg) (how bits since : Int) (m : Ml) : Ml := if isNew s how bits since m = true then ⟨m.uid, afterV m.flags how bits, b.mod + 1, m.text⟩ else m
def newU (s : List Rg) (how bits since : Int) (l : List Ml) : List Int := (l.filter (isNew s how bits since)).map (·.uid)
def lateU (s : List Rg) (since : Int) (l : List Ml) : List Int := (l.filter (isLate s since)).map (·.uid)
theorem fgStep_is (b : Bx) (s : List Rg) (how bits since : Int) (x : Fg) (m : Ml) :
  fgStep b s how bits since x m = ⟨x.ms ++ [newM b s how bits since m], if isNew s how bits since m = true then b.mod + 1 else x.md, if isNew s how bits since m = true then addU x.done m.uid else x.done, if isLate s since m = true then addU x.late m.uid else x.late⟩ := by
 unfold fgStep newM isNew isLate
 cases hh : hasB s m.uid with
 | false => simp
 | true =>
  by_cases h1 : 0 ≤ since
  ·by_cases h2 : since < m.mod
   ·simp [h1, h2]
   ·by_cases h3 : afterV m.flags how bits = m.flags
    ·simp [h1, h2, h3]
    ·simp [h1, h2, h3]
  ·by_cases h3 : afterV m.flags how bits = m.flags
   ·simp [h1, h3]
   ·simp [h1, h3]
theorem fg_fold (b : Bx) (s : List Rg) (how bits since : Int) : ∀ (l : List Ml) (x : Fg), l.foldl (fgStep b s how bits since) x = ⟨x.ms ++ l.map (newM b s how bits since), if (newU s how bits since l).isEmpty = true then x.md else b.mod + 1, (newU s how bits since l).foldl addU x.done, (lateU s since l).foldl addU x.late⟩ := by
 intro l
 induction l with
 | nil => intro x; simp [newU, lateU]
 | cons m l ih =>
  intro x
  rw [List.foldl_cons, ih, fgStep_is]
  unfold newU lateU
  by_cases hn : isNew s how bits since m = true
  ·by_cases hl : isLate s since m = true
   ·simp [hn, hl]
   ·simp [hn, hl]
  ·by_cases hl : isLate s since m = true
   ·simp [hn, hl]
   ·simp [hn, hl]
theorem fg_is (b : Bx) (s : List Rg) (how bits since : Int) : fgOf b s how bits since = ⟨b.mails.map (newM b s how bits since), if (newU s how bits since b.mails).isEmpty = true then b.mod else b.mod + 1, uidsV (newU s how bits since b.mails), uidsV (lateU s since b.mails)⟩ := by
 unfold fgOf
 rw [fg_fold]
 rfl
theorem newM_text (b : Bx) (s : List Rg) (how bits since : Int) (m : Ml) : (newM b s how bits since m).text = m.text ∧ (newM b s how bits since m).uid = m.uid := by unfold newM; split <;> exact ⟨rfl, rfl⟩
theorem fg_fit {b : Bx} {s : List Rg} {how bits since : Int} (h : FitBx b) : FitBx (fgBox b (fgOf b s how bits since)) := by
 rw [fg_is]
 refine ⟨h.name, by simpa [fgBox] using h.mails, fun m hm => ?_, h.tombs⟩
 obtain ⟨x, hx, rfl⟩ := List.mem_map.1 (show m ∈ b.mails.map (newM b s how bits since) from hm)
 rw [(newM_text b s how bits since x).1]
 exact h.texts x hx
theorem uids_right {b : Bx} (h : boxOk b = true) : ∀ m ∈ b.mails, 1 ≤ m.uid ∧ m.uid ≤ 9999 := by
 intro m hm
 obtain ⟨i, hi, rfl⟩ := List.getElem_of_mem hm
 have h1 := (boxOk_iff.1 h).2.1 i hi
 rw [mailAt_is (List.getElem?_eq_getElem hi)] at h1
 unfold mailRight at h1
 rw [Bool.and_eq_true] at h1
 have h2 := inI_iff.1 h1.1
 have h3 : inI b.next 1 9999 = true := by
  have := (boxOk_iff.1 h).1
  unfold headOk at this
  simp only [Bool.and_eq_true] at this
  exact this.2.2.1
 have h3 := inI_iff.1 h3
 omega
theorem newU_right {b : Bx} {s : List Rg} {how bits since : Int} (h : boxOk b = true) : (newU s how bits since b.mails).length ≤ 40 ∧ ∀ u ∈ newU s how bits since b.mails, 1 ≤ u ∧ u ≤ 9999 := by
 have h30 : b.mails.length ≤ 30 := by
  have := (boxOk_iff.1 h).1
  unfold headOk at this
  simp only [Bool.and_eq_true, decide_eq_true_eq] at this
  exact this.2.2.2.2.1
 constructor
 ·unfold newU
  rw [List.length_map]
  exact Nat.le_trans (List.length_filter_le _ _) (by omega)
 ·intro u hu
  obtain ⟨m, hm, rfl⟩ := List.mem_map.1 hu
  exact uids_right h m (List.mem_filter.1 hm).1
theorem lateU_right {b : Bx} {s : List Rg} {since : Int} (h : boxOk b = true) : (lateU s since b.mails).length ≤ 40 ∧ ∀ u ∈ lateU s since b.mails, 1 ≤ u ∧ u ≤ 9999 := by
 have h30 : b.mails.length ≤ 30 := by
  have := (boxOk_iff.1 h).1
  unfold headOk at this
  simp only [Bool.and_eq_true, decide_eq_true_eq] at this
  exact this.2.2.2.2.1
 constructor
 ·unfold lateU
  rw [List.length_map]
  exact Nat.le_trans (List.length_filter_le _ _) (by omega)
 ·intro u hu
  obtain ⟨m, hm, rfl⟩ := List.mem_map.1 hu
  exact uids_right h m (List.mem_filter.1 hm).1
end Go.Proofs.YtlngjflhbkannaaGreat.Plain

namespace Go.Proofs.YtlngjflhbkannaaGreat.Plain
open Go.RowKit
set_option linter.unusedVariables false

def isGone (s : List Rg) (m : Ml) : Bool := hasB s m.uid && decide (0 < andTo m.flags 8 5)
def goneM (s : List Rg) (l : List Ml) : List Int := (l.filter (isGone s)).map (·.uid)
def leftM (s : List Rg) (l : List Ml) : List Ml := l.filter (fun m => !isGone s m)
def tombsOf (b : Bx) (us : List Int) : List Tb := us.map (fun u => ⟨u, b.mod + 1⟩)
/-- As long as there are too many, those of the least count go. -/
def trimS : Nat → List Tb × Int → List Tb × Int
 | 0, x => x
 | n + 1, x => if x.1.length ≤ 40 then x else trimS n (match x.1 with | [] => x | t :: r => ((t :: r).dropWhile (fun y => decide (y.mod ≤ t.mod)), t.mod))
def trimmed (ts : List Tb) (hor : Int) : List Tb × Int := trimS ts.length (ts, hor)
theorem drop_less (t : Tb) (r : List Tb) : ((t :: r).dropWhile (fun y => decide (y.mod ≤ t.mod))).length ≤ r.length := by
 rw [List.dropWhile_cons_of_pos (by simp)]
 exact (List.dropWhile_sublist _).length_le
theorem trimS_more : ∀ (n m : Nat) (ts : List Tb) (hor : Int), ts.length ≤ n → ts.length ≤ m → trimS n (ts, hor) = trimS m (ts, hor) := by
 intro n
 induction n with
 | zero =>
  intro m ts hor h1 h2
  have : ts = [] := List.length_eq_zero_iff.1 (by omega)
  subst this
  cases m <;> simp [trimS]
 | succ n ih =>
  intro m ts hor h1 h2
  cases m with
  | zero =>
   have : ts = [] := List.length_eq_zero_iff.1 (by omega)
   subst this
   simp [trimS]
  | succ m =>
   unfold trimS
   split
   ·rfl
   ·cases ts with
    | nil => rename_i h; simp at h
    | cons t r =>
     have := drop_less t r
     simp only [List.length_cons] at h1 h2
     exact ih m _ _ (by omega) (by omega)
theorem trimmed_in {ts : List Tb} {hor : Int} (h : ts.length ≤ 40) : trimmed ts hor = (ts, hor) := by
 unfold trimmed
 cases hn : ts.length with
 | zero => rfl
 | succ n => unfold trimS; rw [if_pos (by omega)]
theorem trimmed_on {t : Tb} {r : List Tb} {hor : Int} (h : ¬ (t :: r).length ≤ 40) : trimmed (t :: r) hor = trimmed ((t :: r).dropWhile (fun y => decide (y.mod ≤ t.mod))) t.mod := by
 have hd := drop_less t r
 unfold trimmed
 rw [show (t :: r).length = r.length + 1 from rfl]
 conv => lhs; unfold trimS
 rw [if_neg h]
 exact trimS_more _ _ _ _ hd (Nat.le_refl _)
def expBox (b : Bx) (s : List Rg) : Bx := { b with mails := leftM s b.mails, mod := b.mod + 1, tombs := (trimmed (b.tombs ++ tombsOf b (goneM s b.mails)) b.hor).1, hor := (trimmed (b.tombs ++ tombsOf b (goneM s b.mails)) b.hor).2 }
def expV (b : Bx) (s : List Rg) : Bx × List Rg :=
 if (boxOk b && okS s) = true ∧ goneM s b.mails ≠ [] ∧ boxOk (expBox b s) = true then (expBox b s, uidsV (goneM s b.mails)) else (b, [])
theorem expV_no1 {b : Bx} {s : List Rg} (h : (boxOk b && okS s) = false) : expV b s = (b, []) := if_neg (fun x => by rw [h] at x; cases x.1)
theorem expV_no2 {b : Bx} {s : List Rg} (h : goneM s b.mails = []) : expV b s = (b, []) := if_neg (fun x => x.2.1 h)
theorem expV_no3 {b : Bx} {s : List Rg} (h : boxOk (expBox b s) = false) : expV b s = (b, []) := if_neg (fun x => by rw [h] at x; cases x.2.2)
theorem expV_yes {b : Bx} {s : List Rg} (h1 : (boxOk b && okS s) = true) (h2 : goneM s b.mails ≠ []) (h3 : boxOk (expBox b s) = true) : expV b s = (expBox b s, uidsV (goneM s b.mails)) := if_pos ⟨h1, h2, h3⟩
theorem goneM_len (s : List Rg) (l : List Ml) : (goneM s l).length ≤ l.length := by unfold goneM; rw [List.length_map]; exact List.length_filter_le _ _
theorem leftM_len (s : List Rg) (l : List Ml) : (leftM s l).length ≤ l.length := List.length_filter_le _ _
theorem goneM_right {b : Bx} {s : List Rg} (h : boxOk b = true) : (goneM s b.mails).length ≤ 30 ∧ ∀ u ∈ goneM s b.mails, 1 ≤ u ∧ u ≤ 9999 := by
 have h30 : b.mails.length ≤ 30 := by
  have := (boxOk_iff.1 h).1
  unfold headOk at this
  simp only [Bool.and_eq_true, decide_eq_true_eq] at this
  exact this.2.2.2.2.1
 refine ⟨Nat.le_trans (goneM_len s b.mails) h30, fun u hu => ?_⟩
 obtain ⟨m, hm, rfl⟩ := List.mem_map.1 hu
 exact uids_right h m (List.mem_filter.1 hm).1
theorem uidsV_empty {l : List Int} (hl : l.length ≤ 40) (hu : ∀ u ∈ l, 1 ≤ u ∧ u ≤ 9999) : (uidsV l).length = 0 ↔ l = [] := by
 obtain ⟨i1, i2, i3⟩ := uidsV_inv l.length l rfl hl hu
 constructor
 ·intro h
  cases l with
  | nil => rfl
  | cons u r =>
   have h0 : uidsV (u :: r) = [] := List.length_eq_zero_iff.1 h
   have := i3 u
   rw [h0] at this
   simp [hasB] at this
 ·intro h
  subst h
  rfl
/-- Where counts ascend, those that go are at the beginning. -/
theorem filter_drop : ∀ (l : List Tb) (h : Int), l.Pairwise (fun x y => x.mod ≤ y.mod) → l.dropWhile (fun y => decide (y.mod ≤ h)) = l.filter (fun y => decide (h < y.mod)) := by
 intro l
 induction l with
 | nil => intro h _; rfl
 | cons t r ih =>
  intro h hp
  rw [List.pairwise_cons] at hp
  by_cases ht : t.mod ≤ h
  ·rw [List.dropWhile_cons_of_pos (by simpa using ht), ih h hp.2, List.filter_cons_of_neg (by simp; omega)]
  ·rw [List.dropWhile_cons_of_neg (by simpa using ht), List.filter_cons_of_pos (by simp; omega), List.filter_eq_self.2]
   intro x hx
   have := hp.1 x hx
   simp
   omega
/-- The same, as the program does it. -/
def trimI : Nat → List Tb × Int → List Tb × Int
 | 0, x => x
 | n + 1, x => if x.1.length ≤ 40 then x else trimI n (match x.1 with | [] => x | t :: r => ((t :: r).filter (fun y => decide (t.mod < y.mod)), if x.2 < t.mod then t.mod else x.2))
theorem trim_same : ∀ (n : Nat) (ts : List Tb) (hor : Int), ts.Pairwise (fun x y => x.mod ≤ y.mod) → (∀ t ∈ ts, hor < t.mod) → trimI n (ts, hor) = trimS n (ts, hor) := by
 intro n
 induction n with
 | zero => intro ts hor _ _; rfl
 | succ n ih =>
  intro ts hor hp hh
  unfold trimI trimS
  split
  ·rfl
  ·cases ts with
   | nil => rename_i h; simp at h
   | cons t r =>
    have h0 := hh t (by simp)
    show trimI n ((t :: r).filter (fun y => decide (t.mod < y.mod)), if hor < t.mod then t.mod else hor) = trimS n ((t :: r).dropWhile (fun y => decide (y.mod ≤ t.mod)), t.mod)
    rw [if_pos h0, filter_drop _ _ hp]
    exact ih _ _ (hp.filter _) (fun x hx => by have := (List.mem_filter.1 hx).2; simpa using this)
def goneTo8 (b : Bx) (s : List Rg) (k : Nat) : List Int := goneM s (b.mails.take k)
def leftTo8 (b : Bx) (s : List Rg) (k : Nat) : List Ml := leftM s (b.mails.take k)
theorem goneTo8_next {b : Bx} {s : List Rg} {k : Nat} {m : Ml} (h : b.mails[k]? = some m) : goneTo8 b s (k + 1) = if isGone s m = true then goneTo8 b s k ++ [m.uid] else goneTo8 b s k := by
 unfold goneTo8 goneM
 rw [List.take_add_one, h, List.filter_append, List.map_append]
 by_cases hn : isGone s m = true <;> simp [hn]
theorem leftTo8_next {b : Bx} {s : List Rg} {k : Nat} {m : Ml} (h : b.mails[k]? = some m) : leftTo8 b s (k + 1) = if isGone s m = true then leftTo8 b s k else leftTo8 b s k ++ [m] := by
 unfold leftTo8 leftM
 rw [List.take_add_one, h, List.filter_append]
 by_cases hn : isGone s m = true <;> simp [hn]
theorem goneTo8_len (b : Bx) (s : List Rg) (k : Nat) : (goneTo8 b s k).length ≤ b.mails.length := Nat.le_trans (goneM_len _ _) (by simp; omega)
theorem leftTo8_len (b : Bx) (s : List Rg) (k : Nat) : (leftTo8 b s k).length ≤ b.mails.length := Nat.le_trans (leftM_len _ _) (by simp; omega)
theorem goneTo8_all (b : Bx) (s : List Rg) : goneTo8 b s b.mails.length = goneM s b.mails := by unfold goneTo8; rw [List.take_length]
theorem leftTo8_all (b : Bx) (s : List Rg) : leftTo8 b s b.mails.length = leftM s b.mails := by unfold leftTo8; rw [List.take_length]
end Go.Proofs.YtlngjflhbkannaaGreat.Plain

namespace Go.Proofs.YtlngjflhbkannaaGreat.Plain
open Go.RowKit
set_option linter.unusedVariables false

def TombLt (x y : Tb) : Prop := x.mod < y.mod ∨ (x.mod = y.mod ∧ x.uid < y.uid)
theorem TombLt.trans {x y z : Tb} (h1 : TombLt x y) (h2 : TombLt y z) : TombLt x z := by
 unfold TombLt at *
 omega
theorem near_all {α : Type} {R : α → α → Prop} (ht : ∀ x y z, R x y → R y z → R x z) {l : List α} (h : ∀ i (h1 : i < l.length) (h2 : i + 1 < l.length), R l[i] l[i + 1]) : l.Pairwise R := by
 rw [List.pairwise_iff_getElem]
 intro i j hi hj hij
 induction j with
 | zero => omega
 | succ j ih =>
  by_cases e : i = j
  ·subst e; exact h i hi hj
  ·exact ht _ _ _ (ih (by omega) (by omega)) (h j (by omega) hj)
structure MailR (b : Bx) (m : Ml) : Prop where
 u1 : 1 ≤ m.uid
 u2 : m.uid ≤ b.next - 1
 fl : flOk m.flags = true
 m1 : 1 ≤ m.mod
 m2 : m.mod ≤ b.mod
 tx : mailOkL m.text.data.toList = true
structure TombR (b : Bx) (t : Tb) : Prop where
 u1 : 1 ≤ t.uid
 u2 : t.uid ≤ b.next - 1
 m1 : b.hor < t.mod
 m2 : t.mod ≤ b.mod
 no : ∀ m ∈ b.mails, m.uid ≠ t.uid
structure Right (b : Bx) : Prop where
 head : headOk b = true
 mail : ∀ m ∈ b.mails, MailR b m
 asc : b.mails.Pairwise (fun x y => x.uid < y.uid)
 tomb : ∀ t ∈ b.tombs, TombR b t
 tasc : b.tombs.Pairwise TombLt
 tne : b.tombs.Pairwise (fun x y => x.uid ≠ y.uid)
theorem has_not {l : List Ml} {u : Int} : (!hasUid l u) = true ↔ ∀ m ∈ l, m.uid ≠ u := by
 unfold hasUid
 rw [Bool.not_eq_true', List.any_eq_false]
 simp
theorem right_of {b : Bx} (h : boxOk b = true) : Right b := by
 obtain ⟨h0, h1, h2⟩ := boxOk_iff.1 h
 have P : ∀ i (hi : i < b.mails.length), MailR b b.mails[i] ∧ (∀ q, before b.mails i = some q → q.uid < b.mails[i].uid) := by
  intro i hi
  have e := h1 i hi
  rw [mailAt_is (List.getElem?_eq_getElem hi)] at e
  unfold mailRight at e
  simp only [Bool.and_eq_true] at e
  obtain ⟨e1, e2, e3, e4, e5⟩ := e
  refine ⟨⟨(inI_iff.1 e1).1, (inI_iff.1 e1).2, e3, (inI_iff.1 e4).1, (inI_iff.1 e4).2, e5⟩, fun q hq => ?_⟩
  rw [hq] at e2
  exact of_decide_eq_true e2
 have T : ∀ i (hi : i < b.tombs.length), TombR b b.tombs[i] ∧ (∀ q ∈ b.tombs.take i, q.uid ≠ b.tombs[i].uid) ∧ (∀ q, before b.tombs i = some q → TombLt q b.tombs[i]) := by
  intro i hi
  have e := h2 i hi
  rw [tombAt_is (List.getElem?_eq_getElem hi)] at e
  unfold tombRight at e
  simp only [Bool.and_eq_true] at e
  obtain ⟨e1, e2, e3, e4, e5, e6⟩ := e
  refine ⟨⟨(inI_iff.1 e1).1, (inI_iff.1 e1).2, of_decide_eq_true e2, of_decide_eq_true e3, has_not.1 e4⟩, fun q hq => ?_, fun q hq => ?_⟩
  ·have := List.all_eq_true.1 e5 q hq
   simpa using this
  ·rw [hq] at e6
   unfold tombLess at e6
   simp only [Bool.or_eq_true, Bool.and_eq_true, decide_eq_true_eq] at e6
   exact e6
 refine ⟨h0, fun m hm => ?_, ?_, fun t ht => ?_, ?_, ?_⟩
 ·obtain ⟨i, hi, rfl⟩ := List.getElem_of_mem hm
  exact (P i hi).1
 ·refine near_all (fun x y z h1 h2 => by omega) (fun i hi hj => (P (i + 1) hj).2 _ ?_)
  show b.mails[i]? = _
  exact List.getElem?_eq_getElem hi
 ·obtain ⟨i, hi, rfl⟩ := List.getElem_of_mem ht
  exact (T i hi).1
 ·refine near_all (fun x y z h1 h2 => h1.trans h2) (fun i hi hj => (T (i + 1) hj).2.2 _ ?_)
  show b.tombs[i]? = _
  exact List.getElem?_eq_getElem hi
 ·rw [List.pairwise_iff_getElem]
  intro i j hi hj hij
  exact (T j hj).2.1 _ (List.mem_take_iff_getElem.2 ⟨i, by omega, rfl⟩)
theorem Right.ok {b : Bx} (h : Right b) : boxOk b = true := by
 refine boxOk_all h.head (fun i hi => ?_) (fun i hi => ?_)
 ·have hm := h.mail _ (List.getElem_mem hi)
  rw [mailAt_is (List.getElem?_eq_getElem hi)]
  unfold mailRight
  simp only [Bool.and_eq_true]
  refine ⟨inI_iff.2 ⟨hm.u1, hm.u2⟩, ?_, hm.fl, inI_iff.2 ⟨hm.m1, hm.m2⟩, hm.tx⟩
  cases i with
  | zero => rfl
  | succ i =>
   show (match b.mails[i]? with | none => true | some q => decide (q.uid < b.mails[i + 1].uid)) = true
   rw [List.getElem?_eq_getElem (by omega)]
   exact decide_eq_true ((List.pairwise_iff_getElem.1 h.asc) i (i + 1) (by omega) hi (by omega))
 ·have ht := h.tomb _ (List.getElem_mem hi)
  rw [tombAt_is (List.getElem?_eq_getElem hi)]
  unfold tombRight
  simp only [Bool.and_eq_true]
  refine ⟨inI_iff.2 ⟨ht.u1, ht.u2⟩, decide_eq_true ht.m1, decide_eq_true ht.m2, has_not.2 ht.no, ?_, ?_⟩
  ·rw [List.all_eq_true]
   intro q hq
   obtain ⟨k, hk, rfl⟩ := List.mem_take_iff_getElem.1 hq
   have := (List.pairwise_iff_getElem.1 h.tne) k i (by omega) hi (by omega)
   simpa using this
  ·cases i with
   | zero => rfl
   | succ i =>
    show (match b.tombs[i]? with | none => true | some q => tombLess q b.tombs[i + 1]) = true
    rw [List.getElem?_eq_getElem (by omega)]
    have := (List.pairwise_iff_getElem.1 h.tasc) i (i + 1) (by omega) hi (by omega)
    unfold TombLt at this
    show tombLess _ _ = true
    unfold tombLess
    simp only [Bool.or_eq_true, Bool.and_eq_true, decide_eq_true_eq]
    exact this
theorem fit_ok {b : Bx} (h : boxOk b = true) : FitBx b := by
 have hr := right_of h
 obtain ⟨p1, p2, p3, p4, p5, p6, p7⟩ := head_parts hr.head
 refine ⟨?_, Nat.le_trans p5 (by decide), fun m hm => ?_, Nat.le_trans p6 (by decide)⟩
 ·unfold nameOkL at p1
  rw [Bool.and_eq_true] at p1
  have := (inI_iff.1 p1.2).2
  rw [show b.name.size = b.name.data.toList.length from by show b.name.data.size = _; rw [Array.length_toList]]
  omega
 ·have := (hr.mail m hm).tx
  unfold mailOkL at this
  simp only [Bool.and_eq_true, decide_eq_true_eq] at this
  rw [show m.text.size = m.text.data.toList.length from by show m.text.data.size = _; rw [Array.length_toList]]
  omega
theorem add_keeps {b : Bx} {f : Int} {t : ByteArray} (h : boxOk b = true) : boxOk (addV b f t).1 = true := by
 unfold addV
 split
 ·rename_i x; exact x.2
 ·exact h
theorem flags_keeps {b : Bx} {s : List Rg} {how bits since : Int} (h : boxOk b = true) : boxOk (flagsV b s how bits since).1 = true := by
 unfold flagsV
 split
 ·rename_i x; exact x.2
 ·exact h
theorem exp_keeps {b : Bx} {s : List Rg} (h : boxOk b = true) : boxOk (expV b s).1 = true := by
 unfold expV
 split
 ·rename_i x; exact x.2.2
 ·exact h
theorem forgot_right {b : Bx} {u : Int} (h : boxOk b = true) (hu : inI u 0 b.mod = true) : boxOk (forgot b u) = true := by
 have hr := right_of h
 obtain ⟨p1, p2, p3, p4, p5, p6, p7⟩ := head_parts hr.head
 have q7 := inI_iff.1 p7; have qu := inI_iff.1 hu
 refine Right.ok ⟨?_, fun m hm => ?_, hr.asc, fun t ht => ?_, hr.tasc.sublist List.filter_sublist, hr.tne.sublist List.filter_sublist⟩
 ·unfold headOk forgot
  simp only [Bool.and_eq_true]
  refine ⟨p1, p2, p3, p4, decide_eq_true p5, decide_eq_true (Nat.le_trans (List.length_filter_le _ _) p6), inI_iff.2 ?_⟩
  split <;> omega
 ·have := hr.mail m hm
  exact ⟨this.u1, this.u2, this.fl, this.m1, this.m2, this.tx⟩
 ·have ht2 := List.mem_filter.1 ht
  have := hr.tomb t ht2.1
  have h3 := of_decide_eq_true ht2.2
  refine ⟨this.u1, this.u2, ?_, this.m2, this.no⟩
  show (if b.hor < u then u else b.hor) < t.mod
  have := this.m1
  split <;> omega
theorem forget_keeps {b : Bx} {u : Int} (h : boxOk b = true) : boxOk (forgetV b u) = true := by
 unfold forgetV
 split
 ·rename_i x; exact forgot_right x.1 x.2
 ·exact h
end Go.Proofs.YtlngjflhbkannaaGreat.Plain
