/- Several texts in one. -/
import Derived.Test.YtecognggnbopaacGreatStA
import Derived.Test.YtecognggnbopaacGreatAdS
import Derived.Test.YtecognggnbopaacGreatSetA
import Derived.Test.YtecognggnbopaacGreatBoxOkS
import Derived.Test.YtecognggnbopaacGreatRowsA
import Derived.Test.YtecognggnbopaacGreatRegA
import Derived.Deep.AppendLies
import Derived.Test.YtecognggnbopaacGreatBoxP
import Derived.Test.YtecognggnbopaacGreatTv
namespace Go.Proofs.YtecognggnbopaacGreat
open Plain
theorem OwnR.drew {B : Nat} {W : World} {v : Value} {l : List Rg} (h : OwnR B W v l) : OwnR B W.drew v l := h
end Go.Proofs.YtecognggnbopaacGreat
namespace Go.Proofs.YtecognggnbopaacGreat.Plain
open Go.RowKit
set_option linter.unusedVariables false

def addAll (b : Bx) : List Ml → Option Bx
 | [] => some b
 | m :: l => if (addV b m.flags m.text).2 = 0 then none else addAll (addV b m.flags m.text).1 l
def inSet (set : List Rg) (b : Bx) : List Ml := b.mails.filter fun m => hasB set m.uid
def copyV (s : Sx) (f : ByteArray) (set : List Rg) (n : ByteArray) : Sx × Int :=
 if storeOk s = false ∨ okS set = false then (s, 4)
 else match boxAt s f, boxAt s n with
  | some a, some b => match addAll b (inSet set a) with
   | some b' => (putSt s b', 0)
   | none => (s, 3)
  | _, _ => (s, 1)
end Go.Proofs.YtecognggnbopaacGreat.Plain

namespace Go.Proofs.YtecognggnbopaacGreat
open Go.RowKit
open Plain
set_option linter.unusedVariables false
set_option linter.unusedSimpArgs false

namespace Plain
end Plain
end Go.Proofs.YtecognggnbopaacGreat

namespace Go.Proofs.YtecognggnbopaacGreat.Plain
open Go.RowKit
set_option linter.unusedVariables false

def isLate (s : List Rg) (since : Int) (m : Ml) : Bool := hasB s m.uid && (decide (0 ≤ since) && decide (since < m.mod))
def isNew (s : List Rg) (how bits since : Int) (m : Ml) : Bool := hasB s m.uid && (!(decide (0 ≤ since) && decide (since < m.mod)) && !(afterV m.flags how bits == m.flags))
def newM (b : Bx) (s : List Rg) (how bits since : Int) (m : Ml) : Ml := if isNew s how bits since m = true then ⟨m.uid, afterV m.flags how bits, b.mod + 1, m.text⟩ else m
def newU (s : List Rg) (how bits since : Int) (l : List Ml) : List Int := (l.filter (isNew s how bits since)).map (·.uid)
def lateU (s : List Rg) (since : Int) (l : List Ml) : List Int := (l.filter (isLate s since)).map (·.uid)
theorem fgStep_is (b : Bx) (s : List Rg) (how bits since : Int) (x : Fg) (m : Ml) :
  fgStep b s how bits since x m = ⟨x.ms ++ [newM b s how bits since m], if isNew s how bits since m = true then b.mod + 1 else x.md, if isNew s how bits since m = true then addU x.done m.uid else x.done, if isLate s since m = true then addU x.late m.uid else x.late⟩ := by
 unfold fgStep newM isNew isLate
 cases hh : hasB s m.uid with
 | false => simp
 | true =>
  by_cases h1 : 0 ≤ since
  ·by_cases h2 : since < m.mod
   ·simp [h1, h2]
   ·by_cases h3 : afterV m.flags how bits = m.flags
    ·simp [h1, h2, h3]
    ·simp [h1, h2, h3]
  ·by_cases h3 : afterV m.flags how bits = m.flags
   ·simp [h1, h3]
   ·simp [h1, h3]
theorem fg_fold (b : Bx) (s : List Rg) (how bits since : Int) : ∀ (l : List Ml) (x : Fg), l.foldl (fgStep b s how bits since) x = ⟨x.ms ++ l.map (newM b s how bits since), if (newU s how bits since l).isEmpty = true then x.md else b.mod + 1, (newU s how bits since l).foldl addU x.done, (lateU s since l).foldl addU x.late⟩ := by
 intro l
 induction l with
 | nil => intro x; simp [newU, lateU]
 | cons m l ih =>
  intro x
  rw [List.foldl_cons, ih, fgStep_is]
  unfold newU lateU
  by_cases hn : isNew s how bits since m = true
  ·by_cases hl : isLate s since m = true
   ·simp [hn, hl]
   ·simp [hn, hl]
  ·by_cases hl : isLate s since m = true
   ·simp [hn, hl]
   ·simp [hn, hl]
theorem fg_is (b : Bx) (s : List Rg) (how bits since : Int) : fgOf b s how bits since = ⟨b.mails.map (newM b s how bits since), if (newU s how bits since b.mails).isEmpty = true then b.mod else b.mod + 1, uidsV (newU s how bits since b.mails), uidsV (lateU s since b.mails)⟩ := by
 unfold fgOf
 rw [fg_fold]
 rfl
theorem newM_text (b : Bx) (s : List Rg) (how bits since : Int) (m : Ml) : (newM b s how bits since m).text = m.text ∧ (newM b s how bits since m).uid = m.uid := by unfold newM; split <;> exact ⟨rfl, rfl⟩
theorem fg_fit {b : Bx} {s : List Rg} {how bits since : Int} (h : FitBx b) : FitBx (fgBox b (fgOf b s how bits since)) := by
 rw [fg_is]
 refine ⟨h.name, by simpa [fgBox] using h.mails, fun m hm => ?_, h.tombs⟩
 obtain ⟨x, hx, rfl⟩ := List.mem_map.1 (show m ∈ b.mails.map (newM b s how bits since) from hm)
 rw [(newM_text b s how bits since x).1]
 exact h.texts x hx
theorem uids_right {b : Bx} (h : boxOk b = true) : ∀ m ∈ b.mails, 1 ≤ m.uid ∧ m.uid ≤ 9999 := by
 intro m hm
 obtain ⟨i, hi, rfl⟩ := List.getElem_of_mem hm
 have h1 := (boxOk_iff.1 h).2.1 i hi
 rw [mailAt_is (List.getElem?_eq_getElem hi)] at h1
 unfold mailRight at h1
 rw [Bool.and_eq_true] at h1
 have h2 := inI_iff.1 h1.1
 have h3 : inI b.next 1 9999 = true := by
  have := (boxOk_iff.1 h).1
  unfold headOk at this
  simp only [Bool.and_eq_true] at this
  exact this.2.2.1
 have h3 := inI_iff.1 h3
 omega
theorem newU_right {b : Bx} {s : List Rg} {how bits since : Int} (h : boxOk b = true) : (newU s how bits since b.mails).length ≤ 40 ∧ ∀ u ∈ newU s how bits since b.mails, 1 ≤ u ∧ u ≤ 9999 := by
 have h30 : b.mails.length ≤ 30 := by
  have := (boxOk_iff.1 h).1
  unfold headOk at this
  simp only [Bool.and_eq_true, decide_eq_true_eq] at this
  exact this.2.2.2.2.1
 constructor
 ·unfold newU
  rw [List.length_map]
  exact Nat.le_trans (List.length_filter_le _ _) (by omega)
 ·intro u hu
  obtain ⟨m, hm, rfl⟩ := List.mem_map.1 hu
  exact uids_right h m (List.mem_filter.1 hm).1
theorem lateU_right {b : Bx} {s : List Rg} {since : Int} (h : boxOk b = true) : (lateU s since b.mails).length ≤ 40 ∧ ∀ u ∈ lateU s since b.mails, 1 ≤ u ∧ u ≤ 9999 := by
 have h30 : b.mails.length ≤ 30 := by
  have := (boxOk_iff.1 h).1
  unfold headOk at this
  simp only [Bool.and_eq_true, decide_eq_true_eq] at this
  exact this.2.2.2.2.1
 constructor
 ·unfold lateU
  rw [List.length_map]
  exact Nat.le_trans (List.length_filter_le _ _) (by omega)
 ·intro u hu
  obtain ⟨m, hm, rfl⟩ := List.mem_map.1 hu
  exact uids_right h m (List.mem_filter.1 hm).1
end Go.Proofs.YtecognggnbopaacGreat.Plain

namespace Go.Proofs.YtecognggnbopaacGreat.Plain
open Go.RowKit
set_option linter.unusedVariables false

def isGone (s : List Rg) (m : Ml) : Bool := hasB s m.uid && decide (0 < andTo m.flags 8 5)
def goneM (s : List Rg) (l : List Ml) : List Int := (l.filter (isGone s)).map (·.uid)
def leftM (s : List Rg) (l : List Ml) : List Ml := l.filter (fun m => !isGone s m)
def tombsOf (b : Bx) (us : List Int) : List Tb := us.map (fun u => ⟨u, b.mod + 1⟩)
/-- As long as there are too many, those of the least count go. -/
def trimS : Nat → List Tb × Int → List Tb × Int
 | 0, x => x
 | n + 1, x => if x.1.length ≤ 40 then x else trimS n (match x.1 with | [] => x | t :: r => ((t :: r).dropWhile (fun y => decide (y.mod ≤ t.mod)), t.mod))
def trimmed (ts : List Tb) (hor : Int) : List Tb × Int := trimS ts.length (ts, hor)
theorem drop_less (t : Tb) (r : List Tb) : ((t :: r).dropWhile (fun y => decide (y.mod ≤ t.mod))).length ≤ r.length := by
 rw [List.dropWhile_cons_of_pos (by simp)]
 exact (List.dropWhile_sublist _).length_le
theorem trimS_more : ∀ (n m : Nat) (ts : List Tb) (hor : Int), ts.length ≤ n → ts.length ≤ m → trimS n (ts, hor) = trimS m (ts, hor) := by
 intro n
 induction n with
 | zero =>
  intro m ts hor h1 h2
  have : ts = [] := List.length_eq_zero_iff.1 (by omega)
  subst this
  cases m <;> simp [trimS]
 | succ n ih =>
  intro m ts hor h1 h2
  cases m with
  | zero =>
   have : ts = [] := List.length_eq_zero_iff.1 (by omega)
   subst this
   simp [trimS]
  | succ m =>
   unfold trimS
   split
   ·rfl
   ·cases ts with
    | nil => rename_i h; simp at h
    | cons t r =>
     have := drop_less t r
     simp only [List.length_cons] at h1 h2
     exact ih m _ _ (by omega) (by omega)
theorem trimmed_in {ts : List Tb} {hor : Int} (h : ts.length ≤ 40) : trimmed ts hor = (ts, hor) := by
 unfold trimmed
 cases hn : ts.length with
 | zero => rfl
 | succ n => unfold trimS; rw [if_pos (by omega)]
theorem trimmed_on {t : Tb} {r : List Tb} {hor : Int} (h : ¬ (t :: r).length ≤ 40) : trimmed (t :: r) hor = trimmed ((t :: r).dropWhile (fun y => decide (y.mod ≤ t.mod))) t.mod := by
 have hd := drop_less t r
 unfold trimmed
 rw [show (t :: r).length = r.length + 1 from rfl]
 conv => lhs; unfold trimS
 rw [if_neg h]
 exact trimS_more _ _ _ _ hd (Nat.le_refl _)
def expBox (b : Bx) (s : List Rg) : Bx := { b with mails := leftM s b.mails, mod := b.mod + 1, tombs := (trimmed (b.tombs ++ tombsOf b (goneM s b.mails)) b.hor).1, hor := (trimmed (b.tombs ++ tombsOf b (goneM s b.mails)) b.hor).2 }
def expV (b : Bx) (s : List Rg) : Bx × List Rg :=
 if (boxOk b && okS s) = true ∧ goneM s b.mails ≠ [] ∧ boxOk (expBox b s) = true then (expBox b s, uidsV (goneM s b.mails)) else (b, [])
theorem expV_no1 {b : Bx} {s : List Rg} (h : (boxOk b && okS s) = false) : expV b s = (b, []) := if_neg (fun x => by rw [h] at x; cases x.1)
theorem expV_no2 {b : Bx} {s : List Rg} (h : goneM s b.mails = []) : expV b s = (b, []) := if_neg (fun x => x.2.1 h)
theorem expV_no3 {b : Bx} {s : List Rg} (h : boxOk (expBox b s) = false) : expV b s = (b, []) := if_neg (fun x => by rw [h] at x; cases x.2.2)
theorem expV_yes {b : Bx} {s : List Rg} (h1 : (boxOk b && okS s) = true) (h2 : goneM s b.mails ≠ []) (h3 : boxOk (expBox b s) = true) : expV b s = (expBox b s, uidsV (goneM s b.mails)) := if_pos ⟨h1, h2, h3⟩
theorem goneM_len (s : List Rg) (l : List Ml) : (goneM s l).length ≤ l.length := by unfold goneM; rw [List.length_map]; exact List.length_filter_le _ _
theorem leftM_len (s : List Rg) (l : List Ml) : (leftM s l).length ≤ l.length := List.length_filter_le _ _
theorem goneM_right {b : Bx} {s : List Rg} (h : boxOk b = true) : (goneM s b.mails).length ≤ 30 ∧ ∀ u ∈ goneM s b.mails, 1 ≤ u ∧ u ≤ 9999 := by
 have h30 : b.mails.length ≤ 30 := by
  have := (boxOk_iff.1 h).1
  unfold headOk at this
  simp only [Bool.and_eq_true, decide_eq_true_eq] at this
  exact this.2.2.2.2.1
 refine ⟨Nat.le_trans (goneM_len s b.mails) h30, fun u hu => ?_⟩
 obtain ⟨m, hm, rfl⟩ := List.mem_map.1 hu
 exact uids_right h m (List.mem_filter.1 hm).1
theorem uidsV_empty {l : List Int} (hl : l.length ≤ 40) (hu : ∀ u ∈ l, 1 ≤ u ∧ u ≤ 9999) : (uidsV l).length = 0 ↔ l = [] := by
 obtain ⟨i1, i2, i3⟩ := uidsV_inv l.length l rfl hl hu
 constructor
 ·intro h
  cases l with
  | nil => rfl
  | cons u r =>
   have h0 : uidsV (u :: r) = [] := List.length_eq_zero_iff.1 h
   have := i3 u
   rw [h0] at this
   simp [hasB] at this
 ·intro h
  subst h
  rfl
/-- Where counts ascend, those that go are at the beginning. -/
theorem filter_drop : ∀ (l : List Tb) (h : Int), l.Pairwise (fun x y => x.mod ≤ y.mod) → l.dropWhile (fun y => decide (y.mod ≤ h)) = l.filter (fun y => decide (h < y.mod)) := by
 intro l
 induction l with
 | nil => intro h _; rfl
 | cons t r ih =>
  intro h hp
  rw [List.pairwise_cons] at hp
  by_cases ht : t.mod ≤ h
  ·rw [List.dropWhile_cons_of_pos (by simpa using ht), ih h hp.2, List.filter_cons_of_neg (by simp; omega)]
  ·rw [List.dropWhile_cons_of_neg (by simpa using ht), List.filter_cons_of_pos (by simp; omega), List.filter_eq_self.2]
   intro x hx
   have := hp.1 x hx
   simp
   omega
/-- The same, as the program does it. -/
def trimI : Nat → List Tb × Int → List Tb × Int
 | 0, x => x
 | n + 1, x => if x.1.length ≤ 40 then x else trimI n (match x.1 with | [] => x | t :: r => ((t :: r).filter (fun y => decide (t.mod < y.mod)), if x.2 < t.mod then t.mod else x.2))
theorem trim_same : ∀ (n : Nat) (ts : List Tb) (hor : Int), ts.Pairwise (fun x y => x.mod ≤ y.mod) → (∀ t ∈ ts, hor < t.mod) → trimI n (ts, hor) = trimS n (ts, hor) := by
 intro n
 induction n with
 | zero => intro ts hor _ _; rfl
 | succ n ih =>
  intro ts hor hp hh
  unfold trimI trimS
  split
  ·rfl
  ·cases ts with
   | nil => rename_i h; simp at h
   | cons t r =>
    have h0 := hh t (by simp)
    show trimI n ((t :: r).filter (fun y => decide (t.mod < y.mod)), if hor < t.mod then t.mod else hor) = trimS n ((t :: r).dropWhile (fun y => decide (y.mod ≤ t.mod)), t.mod)
    rw [if_pos h0, filter_drop _ _ hp]
    exact ih _ _ (hp.filter _) (fun x hx => by have := (List.mem_filter.1 hx).2; simpa using this)
def goneTo8 (b : Bx) (s : List Rg) (k : Nat) : List Int := goneM s (b.mails.take k)
def leftTo8 (b : Bx) (s : List Rg) (k : Nat) : List Ml := leftM s (b.mails.take k)
theorem goneTo8_next {b : Bx} {s : List Rg} {k : Nat} {m : Ml} (h : b.mails[k]? = some m) : goneTo8 b s (k + 1) = if isGone s m = true then goneTo8 b s k ++ [m.uid] else goneTo8 b s k := by
 unfold goneTo8 goneM
 rw [List.take_add_one, h, List.filter_append, List.map_append]
 by_cases hn : isGone s m = true <;> simp [hn]
theorem leftTo8_next {b : Bx} {s : List Rg} {k : Nat} {m : Ml} (h : b.mails[k]? = some m) : leftTo8 b s (k + 1) = if isGone s m = true then leftTo8 b s k else leftTo8 b s k ++ [m] := by
 unfold leftTo8 leftM
 rw [List.take_add_one, h, List.filter_append]
 by_cases hn : isGone s m = true <;> simp [hn]
theorem goneTo8_len (b : Bx) (s : List Rg) (k : Nat) : (goneTo8 b s k).length ≤ b.mails.length := Nat.le_trans (goneM_len _ _) (by simp; omega)
theorem leftTo8_len (b : Bx) (s : List Rg) (k : Nat) : (leftTo8 b s k).length ≤ b.mails.length := Nat.le_trans (leftM_len _ _) (by simp; omega)
theorem goneTo8_all (b : Bx) (s : List Rg) : goneTo8 b s b.mails.length = goneM s b.mails := by unfold goneTo8; rw [List.take_length]
theorem leftTo8_all (b : Bx) (s : List Rg) : leftTo8 b s b.mails.length = leftM s b.mails := by unfold leftTo8; rw [List.take_length]
end Go.Proofs.YtecognggnbopaacGreat.Plain

namespace Go.Proofs.YtecognggnbopaacGreat.Plain
open Go.RowKit
set_option linter.unusedVariables false

def TombLt (x y : Tb) : Prop := x.mod < y.mod ∨ (x.mod = y.mod ∧ x.uid < y.uid)
theorem TombLt.trans {x y z : Tb} (h1 : TombLt x y) (h2 : TombLt y z) : TombLt x z := by
 unfold TombLt at *
 omega
theorem near_all {α : Type} {R : α → α → Prop} (ht : ∀ x y z, R x y → R y z → R x z) {l : List α} (h : ∀ i (h1 : i < l.length) (h2 : i + 1 < l.length), R l[i] l[i + 1]) : l.Pairwise R := by
 rw [List.pairwise_iff_getElem]
 intro i j hi hj hij
 induction j with
 | zero => omega
 | succ j ih =>
  by_cases e : i = j
  ·subst e; exact h i hi hj
  ·exact ht _ _ _ (ih (by omega) (by omega)) (h j (by omega) hj)
structure MailR (b : Bx) (m : Ml) : Prop where
 u1 : 1 ≤ m.uid
 u2 : m.uid ≤ b.next - 1
 fl : flOk m.flags = true
 m1 : 1 ≤ m.mod
 m2 : m.mod ≤ b.mod
 tx : mailOkL m.text.data.toList = true
structure TombR (b : Bx) (t : Tb) : Prop where
 u1 : 1 ≤ t.uid
 u2 : t.uid ≤ b.next - 1
 m1 : b.hor < t.mod
 m2 : t.mod ≤ b.mod
 no : ∀ m ∈ b.mails, m.uid ≠ t.uid
structure Right (b : Bx) : Prop where
 head : headOk b = true
 mail : ∀ m ∈ b.mails, MailR b m
 asc : b.mails.Pairwise (fun x y => x.uid < y.uid)
 tomb : ∀ t ∈ b.tombs, TombR b t
 tasc : b.tombs.Pairwise TombLt
 tne : b.tombs.Pairwise (fun x y => x.uid ≠ y.uid)
theorem has_not {l : List Ml} {u : Int} : (!hasUid l u) = true ↔ ∀ m ∈ l, m.uid ≠ u := by
 unfold hasUid
 rw [Bool.not_eq_true', List.any_eq_false]
 simp
theorem right_of {b : Bx} (h : boxOk b = true) : Right b := by
 obtain ⟨h0, h1, h2⟩ := boxOk_iff.1 h
 have P : ∀ i (hi : i < b.mails.length), MailR b b.mails[i] ∧ (∀ q, before b.mails i = some q → q.uid < b.mails[i].uid) := by
  intro i hi
  have e := h1 i hi
  rw [mailAt_is (List.getElem?_eq_getElem hi)] at e
  unfold mailRight at e
  simp only [Bool.and_eq_true] at e
  obtain ⟨e1, e2, e3, e4, e5⟩ := e
  refine ⟨⟨(inI_iff.1 e1).1, (inI_iff.1 e1).2, e3, (inI_iff.1 e4).1, (inI_iff.1 e4).2, e5⟩, fun q hq => ?_⟩
  rw [hq] at e2
  exact of_decide_eq_true e2
 have T : ∀ i (hi : i < b.tombs.length), TombR b b.tombs[i] ∧ (∀ q ∈ b.tombs.take i, q.uid ≠ b.tombs[i].uid) ∧ (∀ q, before b.tombs i = some q → TombLt q b.tombs[i]) := by
  intro i hi
  have e := h2 i hi
  rw [tombAt_is (List.getElem?_eq_getElem hi)] at e
  unfold tombRight at e
  simp only [Bool.and_eq_true] at e
  obtain ⟨e1, e2, e3, e4, e5, e6⟩ := e
  refine ⟨⟨(inI_iff.1 e1).1, (inI_iff.1 e1).2, of_decide_eq_true e2, of_decide_eq_true e3, has_not.1 e4⟩, fun q hq => ?_, fun q hq => ?_⟩
  ·have := List.all_eq_true.1 e5 q hq
   simpa using this
  ·rw [hq] at e6
   unfold tombLess at e6
   simp only [Bool.or_eq_true, Bool.and_eq_true, decide_eq_true_eq] at e6
   exact e6
 refine ⟨h0, fun m hm => ?_, ?_, fun t ht => ?_, ?_, ?_⟩
 ·obtain ⟨i, hi, rfl⟩ := List.getElem_of_mem hm
  exact (P i hi).1
 ·refine near_all (fun x y z h1 h2 => by omega) (fun i hi hj => (P (i + 1) hj).2 _ ?_)
  show b.mails[i]? = _
  exact List.getElem?_eq_getElem hi
 ·obtain ⟨i, hi, rfl⟩ := List.getElem_of_mem ht
  exact (T i hi).1
 ·refine near_all (fun x y z h1 h2 => h1.trans h2) (fun i hi hj => (T (i + 1) hj).2.2 _ ?_)
  show b.tombs[i]? = _
  exact List.getElem?_eq_getElem hi
 ·rw [List.pairwise_iff_getElem]
  intro i j hi hj hij
  exact (T j hj).2.1 _ (List.mem_take_iff_getElem.2 ⟨i, by omega, rfl⟩)
theorem Right.ok {b : Bx} (h : Right b) : boxOk b = true := by
 refine boxOk_all h.head (fun i hi => ?_) (fun i hi => ?_)
 ·have hm := h.mail _ (List.getElem_mem hi)
  rw [mailAt_is (List.getElem?_eq_getElem hi)]
  unfold mailRight
  simp only [Bool.and_eq_true]
  refine ⟨inI_iff.2 ⟨hm.u1, hm.u2⟩, ?_, hm.fl, inI_iff.2 ⟨hm.m1, hm.m2⟩, hm.tx⟩
  cases i with
  | zero => rfl
  | succ i =>
   show (match b.mails[i]? with | none => true | some q => decide (q.uid < b.mails[i + 1].uid)) = true
   rw [List.getElem?_eq_getElem (by omega)]
   exact decide_eq_true ((List.pairwise_iff_getElem.1 h.asc) i (i + 1) (by omega) hi (by omega))
 ·have ht := h.tomb _ (List.getElem_mem hi)
  rw [tombAt_is (List.getElem?_eq_getElem hi)]
  unfold tombRight
  simp only [Bool.and_eq_true]
  refine ⟨inI_iff.2 ⟨ht.u1, ht.u2⟩, decide_eq_true ht.m1, decide_eq_true ht.m2, has_not.2 ht.no, ?_, ?_⟩
  ·rw [List.all_eq_true]
   intro q hq
   obtain ⟨k, hk, rfl⟩ := List.mem_take_iff_getElem.1 hq
   have := (List.pairwise_iff_getElem.1 h.tne) k i (by omega) hi (by omega)
   simpa using this
  ·cases i with
   | zero => rfl
   | succ i =>
    show (match b.tombs[i]? with | none => true | some q => tombLess q b.tombs[i + 1]) = true
    rw [List.getElem?_eq_getElem (by omega)]
    have := (List.pairwise_iff_getElem.1 h.tasc) i (i + 1) (by omega) hi (by omega)
    unfold TombLt at this
    show tombLess _ _ = true
    unfold tombLess
    simp only [Bool.or_eq_true, Bool.and_eq_true, decide_eq_true_eq]
    exact this
theorem fit_ok {b : Bx} (h : boxOk b = true) : FitBx b := by
 have hr := right_of h
 obtain ⟨p1, p2, p3, p4, p5, p6, p7⟩ := head_parts hr.head
 refine ⟨?_, Nat.le_trans p5 (by decide), fun m hm => ?_, Nat.le_trans p6 (by decide)⟩
 ·unfold nameOkL at p1
  rw [Bool.and_eq_true] at p1
  have := (inI_iff.1 p1.2).2
  rw [show b.name.size = b.name.data.toList.length from by show b.name.data.size = _; rw [Array.length_toList]]
  omega
 ·have := (hr.mail m hm).tx
  unfold mailOkL at this
  simp only [Bool.and_eq_true, decide_eq_true_eq] at this
  rw [show m.text.size = m.text.data.toList.length from by show m.text.data.size = _; rw [Array.length_toList]]
  omega
theorem flags_keeps {b : Bx} {s : List Rg} {how bits since : Int} (h : boxOk b = true) : boxOk (flagsV b s how bits since).1 = true := by
 unfold flagsV
 split
 ·rename_i x; exact x.2
 ·exact h
theorem exp_keeps {b : Bx} {s : List Rg} (h : boxOk b = true) : boxOk (expV b s).1 = true := by
 unfold expV
 split
 ·rename_i x; exact x.2.2
 ·exact h
end Go.Proofs.YtecognggnbopaacGreat.Plain

namespace Go.Proofs.YtecognggnbopaacGreat
open Go.RowKit
open Plain
set_option linter.unusedVariables false
set_option linter.unusedSimpArgs false

namespace Plain
theorem addV_ok {b : Bx} {f : Int} {t : ByteArray} (h : ¬ (addV b f t).2 = 0) : boxOk (addV b f t).1 = true := by
 unfold addV at h ⊢
 split
 ·rename_i x; exact x.2
 ·rename_i x; rw [if_neg x] at h; exact absurd rfl h
theorem addAll_no {b : Bx} {m : Ml} {l : List Ml} (h : (addV b m.flags m.text).2 = 0) : addAll b (m :: l) = none := by unfold addAll; rw [if_pos h]
theorem addAll_yes {b : Bx} {m : Ml} {l : List Ml} (h : ¬ (addV b m.flags m.text).2 = 0) : addAll b (m :: l) = addAll (addV b m.flags m.text).1 l := by rw [addAll, if_neg h]
theorem addV_name (b : Bx) (f : Int) (t : ByteArray) : (addV b f t).1.name = b.name := by unfold addV; split <;> rfl
theorem addAll_name : ∀ (l : List Ml) (b b' : Bx), addAll b l = some b' → b'.name = b.name := by
 intro l
 induction l with
 | nil => intro b b' h; cases h; rfl
 | cons m l ih =>
  intro b b' h
  by_cases hz : (addV b m.flags m.text).2 = 0
  ·rw [addAll_no hz] at h; cases h
  ·rw [addAll_yes hz] at h
   rw [ih _ _ h, addV_name]
theorem copyV_bad1 {s : Sx} {f n : ByteArray} {set : List Rg} (h : storeOk s = false) : copyV s f set n = (s, 4) := by unfold copyV; rw [if_pos (.inl h)]
theorem copyV_bad2 {s : Sx} {f n : ByteArray} {set : List Rg} (h : okS set = false) : copyV s f set n = (s, 4) := by unfold copyV; rw [if_pos (.inr h)]
theorem copyV_in {s : Sx} {f n : ByteArray} {set : List Rg} (h1 : storeOk s = true) (h2 : okS set = true) : copyV s f set n = match boxAt s f, boxAt s n with
  | some a, some b => match addAll b (inSet set a) with
   | some b' => (putSt s b', 0)
   | none => (s, 3)
  | _, _ => (s, 1) := by unfold copyV; rw [if_neg (by rw [h1, h2]; simp)]; (try (cases boxAt s f <;> cases boxAt s n <;> rfl))
end Plain
end Go.Proofs.YtecognggnbopaacGreat

namespace Go.Proofs.YtecognggnbopaacGreat.Plain
open Go.RowKit
set_option linter.unusedVariables false

theorem cntM_one {u : Int} (h1 : 1 ≤ u) (h2 : u ≤ 9999) : cntTo (fun n => decide ((n : Int) = u)) 9999 = 1 := by
 have e3 := cnt_range (lo := u) (hi := u) h1 (by omega) 9999
 rw [if_neg (by omega)] at e3
 have e4 : cntTo (fun n => decide ((n : Int) = u)) 9999 = cntTo (fun n => decide (u ≤ (n : Int)) && decide ((n : Int) ≤ u)) 9999 := cnt_congr fun n _ _ => by
  rw [Bool.eq_iff_iff]
  simp only [Bool.and_eq_true, decide_eq_true_eq]
  omega
 rw [e4, e3]
 split <;> omega
theorem cntM_list : ∀ (l : List Int), l.Nodup → (∀ u ∈ l, 1 ≤ u ∧ u ≤ 9999) → cntTo (fun n => decide ((n : Int) ∈ l)) 9999 = (l.length : Int) := by
 intro l
 induction l with
 | nil =>
  intro _ _
  exact (cnt_congr fun n _ _ => by simp).trans cnt_none
 | cons u l ih =>
  intro hn hu
  rw [List.nodup_cons] at hn
  have hu1 := hu u (by simp)
  have i := ih hn.2 (fun x hx => hu x (by simp [hx]))
  have e := cnt_or (f := fun n => decide ((n : Int) = u)) (g := fun n => decide ((n : Int) ∈ l)) (N := 9999)
  have e2 : cntTo (fun n => decide ((n : Int) = u) && decide ((n : Int) ∈ l)) 9999 = 0 := by
   rw [← cnt_none (N := 9999)]
   refine cnt_congr fun n _ _ => ?_
   rw [Bool.eq_false_iff]
   intro h
   simp only [Bool.and_eq_true, decide_eq_true_eq] at h
   exact hn.1 (h.1 ▸ h.2)
  have e1 : cntTo (fun n => decide ((n : Int) ∈ u :: l)) 9999 = cntTo (fun n => decide ((n : Int) = u) || decide ((n : Int) ∈ l)) 9999 := cnt_congr fun n _ _ => by
   rw [Bool.eq_iff_iff]
   simp
  rw [e1]
  rw [e2, cntM_one hu1.1 hu1.2, i] at e
  rw [List.length_cons]
  omega
theorem uidsM_size {l : List Int} (hn : l.Nodup) (hl : l.length ≤ 40) (hu : ∀ u ∈ l, 1 ≤ u ∧ u ≤ 9999) : sizeL (uidsV l) = (l.length : Int) := by
 obtain ⟨i1, i2, i3⟩ := uidsV_inv _ l rfl hl hu
 rw [size_cnt i1, ← cntM_list l hn hu]
 exact cnt_congr fun n _ _ => i3 (n : Int)

/-- A box whose mails in the set are flagged, and taken. -/
def takeV (b : Bx) (set : List Rg) : Bx × List Rg := expV (flagsV b set 2 8 (-1)).1 set
def moveV (s : Sx) (f : ByteArray) (set : List Rg) (n : ByteArray) : Sx × Int :=
 if f = n then (s, 4)
 else if (copyV s f set n).2 = 0 then match boxAt (copyV s f set n).1 f with
  | some a => if inSet set (takeV a set).1 = [] then (putSt (copyV s f set n).1 (takeV a set).1, 0) else (s, 3)
  | none => (s, 3)
 else (s, (copyV s f set n).2)
theorem flags_uids (b : Bx) (s : List Rg) (how bits since : Int) : (flagsV b s how bits since).1.mails.map (·.uid) = b.mails.map (·.uid) := by
 unfold flagsV
 split
 ·show (fgOf b s how bits since).ms.map (·.uid) = _
  rw [fg_is]
  show (b.mails.map (newM b s how bits since)).map (·.uid) = _
  rw [List.map_map]
  exact List.map_congr_left fun m _ => (newM_text b s how bits since m).2
 ·rfl
theorem inSet_map (set : List Rg) (b : Bx) : (inSet set b).length = ((b.mails.map (·.uid)).filter (hasB set)).length := by
 unfold inSet
 rw [List.filter_map, List.length_map]
 rfl
theorem in_parts (set : List Rg) : ∀ l : List Ml, ((leftM set l).filter fun m => hasB set m.uid).length + (goneM set l).length = (l.filter fun m => hasB set m.uid).length := by
 intro l
 induction l with
 | nil => rfl
 | cons x l ih =>
  unfold leftM goneM at *
  cases hg : isGone set x with
  | true =>
   have hh : hasB set x.uid = true := by unfold isGone at hg; rw [Bool.and_eq_true] at hg; exact hg.1
   rw [List.filter_cons_of_neg (p := fun (m : Ml) => !isGone set m) (by rw [hg]; decide), List.filter_cons_of_pos (p := isGone set) hg, List.filter_cons_of_pos (p := fun (m : Ml) => hasB set m.uid) hh]
   simp only [List.map_cons, List.length_cons] at *
   omega
  | false =>
   rw [List.filter_cons_of_pos (p := fun (m : Ml) => !isGone set m) (by rw [hg]; rfl), List.filter_cons_of_neg (p := isGone set) (by rw [hg]; decide)]
   cases hh : hasB set x.uid with
   | true => rw [List.filter_cons_of_pos (p := fun (m : Ml) => hasB set m.uid) hh, List.filter_cons_of_pos (p := fun (m : Ml) => hasB set m.uid) hh]; simp only [List.length_cons] at *; omega
   | false => rw [List.filter_cons_of_neg (p := fun (m : Ml) => hasB set m.uid) (by rw [hh]; decide), List.filter_cons_of_neg (p := fun (m : Ml) => hasB set m.uid) (by rw [hh]; decide)]; exact ih
/-- Those that stay in the set, and those that are gone, are all of them. -/
theorem take_count {b : Bx} (set : List Rg) (hb : boxOk b = true) : ((inSet set (takeV b set).1).length : Int) + sizeL (takeV b set).2 = ((inSet set b).length : Int) := by
 have hc := flags_keeps (s := set) (how := 2) (bits := 8) (since := -1) hb; have hu := flags_uids b set 2 8 (-1)
 rw [inSet_map set b, ← hu, ← inSet_map]
 unfold takeV
 generalize (flagsV b set 2 8 (-1)).1 = c at *
 by_cases h1 : (boxOk c && okS set) = true
 ·by_cases h2 : goneM set c.mails = []
  ·rw [expV_no2 h2]; show ((inSet set c).length : Int) + (0 : Int) = _; omega
  ·by_cases h3 : boxOk (expBox c set) = true
   ·rw [expV_yes h1 h2 h3]
    obtain ⟨g1, g2⟩ := goneM_right (s := set) hc
    have hnd : (goneM set c.mails).Nodup := by
     unfold goneM
     rw [List.nodup_iff_pairwise_ne, List.pairwise_map]
     exact ((right_of hc).asc.sublist List.filter_sublist).imp fun h e => by omega
    show _ + sizeL (uidsV (goneM set c.mails)) = _
    rw [uidsM_size hnd (by omega) g2]
    have := in_parts set c.mails
    show ((((leftM set c.mails).filter fun m => hasB set m.uid).length : Int)) + _ = (((c.mails.filter fun m => hasB set m.uid).length : Int))
    omega
   ·rw [expV_no3 (by simpa using h3)]; show ((inSet set c).length : Int) + (0 : Int) = _; omega
 ·rw [expV_no1 (by simpa using h1)]; show ((inSet set c).length : Int) + (0 : Int) = _; omega
theorem take_eq {b : Bx} (set : List Rg) (hb : boxOk b = true) : (sizeL (takeV b set).2 == ((inSet set b).length : Int)) = decide (inSet set (takeV b set).1 = []) := by
 have h := take_count set hb
 rw [Bool.eq_iff_iff, beq_iff_eq, decide_eq_true_eq]
 constructor
 ·intro e
  exact List.eq_nil_of_length_eq_zero (by omega)
 ·intro e
  rw [e] at h
  simp at h
  exact h
theorem take_ok {b : Bx} (set : List Rg) (hb : boxOk b = true) : boxOk (takeV b set).1 = true := exp_keeps (flags_keeps hb)
theorem flags_name (b : Bx) (s : List Rg) (how bits since : Int) : (flagsV b s how bits since).1.name = b.name := by unfold flagsV; split <;> rfl
theorem exp_name (b : Bx) (s : List Rg) : (expV b s).1.name = b.name := by unfold expV; split <;> rfl
theorem take_name (b : Bx) (set : List Rg) : (takeV b set).1.name = b.name := by unfold takeV; rw [exp_name, flags_name]
theorem putX_other {b : Bx} {n : ByteArray} (hn : sameN n b = false) : ∀ l : List Bx, (putX b l).find? (sameN n) = l.find? (sameN n) := by
 intro l
 induction l with
 | nil => rfl
 | cons x l ih =>
  unfold putX
  split
  ·rename_i h
   have e : x.name = b.name := sameN_iff.1 h
   have hx : sameN n x = false := by unfold sameN at hn ⊢; rw [e]; exact hn
   rw [List.find?_cons_of_neg (by rw [hn]; decide), List.find?_cons_of_neg (by rw [hx]; decide)]
  ·rw [List.find?_cons, List.find?_cons, ih]
/-- What CopyMails did, where all is well. -/
theorem copyV_done {s : Sx} {f n : ByteArray} {set : List Rg} (hne : f ≠ n) (h : (copyV s f set n).2 = 0) : RightSt s ∧ okS set = true ∧ ∃ a, boxAt s f = some a ∧ boxOk a = true ∧ boxAt (copyV s f set n).1 f = some a ∧ (∀ b ∈ (copyV s f set n).1.boxes, boxOk b = true) ∧ (copyV s f set n).1.boxes.length = s.boxes.length ∧ (copyV s f set n).1.valid = s.valid := by
 cases h1 : storeOk s with
 | false => rw [copyV_bad1 h1] at h; simp at h
 | true =>
  cases h2 : okS set with
  | false => rw [copyV_bad2 h2] at h; simp at h
  | true =>
   rw [copyV_in h1 h2] at h ⊢
   have hr := right_st h1
   cases ha : boxAt s f with
   | none => rw [ha] at h; simp at h
   | some a =>
    cases hb : boxAt s n with
    | none => rw [ha, hb] at h; simp at h
    | some b =>
     rw [ha, hb] at h
     simp only at h ⊢
     cases hc : addAll b (inSet set a) with
     | none => rw [hc] at h; simp at h
     | some b' =>
      simp only
      have hn : b'.name = n := (addAll_name _ _ _ hc).trans (boxAt_mem hb).2
      have hok : boxOk b' = true := by
       have key : ∀ (l : List Ml) (b b' : Bx), boxOk b = true → addAll b l = some b' → boxOk b' = true := by
        intro l
        induction l with
        | nil => intro b b' h h2; cases h2; exact h
        | cons m l ih =>
         intro b b' h h2
         by_cases hz : (addV b m.flags m.text).2 = 0
         ·rw [addAll_no hz] at h2; cases h2
         ·rw [addAll_yes hz] at h2
          exact ih _ _ (addV_ok hz) h2
       exact key _ _ _ (hr.each b (boxAt_mem hb).1).1 hc
      refine ⟨hr, by first | rfl | trivial, a, rfl, (hr.each a (boxAt_mem ha).1).1, ?_, ?_, putX_len _ _, rfl⟩
      ·show (putX b' s.boxes).find? (sameN f) = some a
       rw [putX_other (by cases hq : sameN f b' with | true => exact absurd ((sameN_iff.1 hq).symm.trans hn) hne | false => rfl)]
       exact ha
      ·intro x hx
       have key : ∀ (l : List Bx), x ∈ putX b' l → x = b' ∨ x ∈ l := by
        intro l
        induction l with
        | nil => intro h; cases h
        | cons y l ih =>
         intro h
         unfold putX at h
         split at h
         ·rcases List.mem_cons.1 h with h | h
          ·exact .inl h
          ·exact .inr (List.mem_cons_of_mem _ h)
         ·rcases List.mem_cons.1 h with h | h
          ·exact .inr (by rw [h]; exact List.mem_cons_self)
          ·rcases ih h with h | h
           ·exact .inl h
           ·exact .inr (List.mem_cons_of_mem _ h)
       rcases key _ hx with rfl | hx
       ·exact hok
       ·exact (hr.each x hx).1
theorem copyV_same {s : Sx} {f n : ByteArray} {set : List Rg} (h : ¬ (copyV s f set n).2 = 0) : (copyV s f set n).1 = s := by
 cases h1 : storeOk s with
 | false => rw [copyV_bad1 h1]
 | true =>
  cases h2 : okS set with
  | false => rw [copyV_bad2 h2]
  | true =>
   rw [copyV_in h1 h2] at h ⊢
   cases ha : boxAt s f with
   | none => rfl
   | some a =>
    cases hb : boxAt s n with
    | none => rfl
    | some b =>
     rw [ha, hb] at h
     simp only at h ⊢
     cases hc : addAll b (inSet set a) with
     | none => rfl
     | some b' => rw [hc] at h; simp at h
theorem moveV_bad {s : Sx} {f n : ByteArray} {set : List Rg} (h : f = n) : moveV s f set n = (s, 4) := if_pos h
theorem moveV_code {s : Sx} {f n : ByteArray} {set : List Rg} (h : f ≠ n) (h2 : ¬ (copyV s f set n).2 = 0) : moveV s f set n = (s, (copyV s f set n).2) := by unfold moveV; rw [if_neg h, if_neg h2]
theorem moveV_in {s : Sx} {f n : ByteArray} {set : List Rg} {a : Bx} (h : f ≠ n) (h2 : (copyV s f set n).2 = 0) (ha : boxAt (copyV s f set n).1 f = some a) : moveV s f set n = if inSet set (takeV a set).1 = [] then (putSt (copyV s f set n).1 (takeV a set).1, 0) else (s, 3) := by unfold moveV; rw [if_neg h, if_pos h2, ha]
end Go.Proofs.YtecognggnbopaacGreat.Plain

namespace Go.Proofs.YtecognggnbopaacGreat
open Go.RowKit
open Plain
set_option linter.unusedVariables false

set_option maxHeartbeats 1000000 in
set_option maxRecDepth 100000 in
theorem eqRangeS_same (l : List Rg) (v1 v2 : Value) (B1 B2 : Nat) (w : World) (hs : l.length ≤ 1048576) (h1 : OwnR B1 w v1 l) (h2 : OwnR B2 w v2 l) :
  Calls Tryz.prog 11 #[v1, v2] w fun e w' => e = .returned (.bool true) ∧ Below w.heap.size w w' := by
 unfold OwnR at h1 h2
 obtain ⟨n, hn⟩ : ∃ n, n = l.length := ⟨_, rfl⟩
 rw [← hn] at h1 h2 hs
 by_cases hz : n = 0
 ·obtain ⟨a1, c1, rfl⟩ := g_shape h1
  obtain ⟨a2, c2, rfl⟩ := g_shape h2
  clear h1 h2 hn
  subst hz
  go_enter Tryz.func11, Tryz.ntmps11
  go_wp2
  refine wp_loop_rounds 1 ?_
  rw [rounds_succ]
  go_wp2
  go_ret
  exact ⟨rfl, Below.refl _ _⟩
 ·rcases h1.2 with ⟨_, h10⟩ | ⟨g1, c1, cur1, rfl, hb1, hh1, _⟩
  ·exact absurd h10 hz
  rcases h2.2 with ⟨_, h20⟩ | ⟨g2, c2, cur2, rfl, hb2, hh2, _⟩
  ·exact absurd h20 hz
  have hl1 : g1 < w.heap.size := (h1.lt _ rfl).2
  have hl2 : g2 < w.heap.size := (h2.lt _ rfl).2
  have C1 := hide (fun (k : Nat) (f : Rg) (hx : l[k]? = some f) (hk : k < n) => rg_cells h1 hx hk)
  have C2 := hide (fun (k : Nat) (f : Rg) (hx : l[k]? = some f) (hk : k < n) => rg_cells h2 hx hk)
  have HN := hide hn; clear h1 h2 hh1 hh2 hn
  go_enter Tryz.func11, Tryz.ntmps11
  go_wp2
  go_loopw [5] (fun i wr => ∃ k : Nat, k ≤ n ∧ i = .int .i64 k ∧ Below w.heap.size w wr) (fun i _ => n - (intOf i).toNat)
  case atStart => exact ⟨0, Nat.zero_le _, rfl, Below.refl _ _⟩
  case round =>
   obtain ⟨k, hk, rfl, hbel⟩ := hrel
   by_cases hlt : k < n
   ·have hkl : k < l.length := by rw [← uh HN]; exact hlt
    obtain ⟨c0, c1'⟩ := uh C1 k l[k] (List.getElem?_eq_getElem hkl) hlt
    obtain ⟨d0, d1⟩ := uh C2 k l[k] (List.getElem?_eq_getElem hkl) hlt
    generalize l[k] = f at *
    obtain ⟨fl, fh⟩ := f
    simp only at c0 c1' d0 d1
    have HE := hide (fun wx => (eqRange_same ⟨fl, fh⟩ wx : Calls Tryz.prog 32 #[.agg #[.int .i64 fl, .int .i64 fh], .agg #[.int .i64 fl, .int .i64 fh]] wx fun e w' => e = .returned (.bool true) ∧ Below wx.heap.size wx w'))
    rw [← hbel.cell (p := ⟨g1, _, none⟩) hl1] at c0 c1'
    rw [← hbel.cell (p := ⟨g2, _, none⟩) hl2] at d0 d1
    have hr1 : g1 < wr.heap.size := Nat.lt_of_lt_of_le hl1 hbel.size
    have hr2 : g2 < wr.heap.size := Nat.lt_of_lt_of_le hl2 hbel.size
    have hik : (0 : Int) ≤ (k : Int) := by omega
    have hil : (k : Int) < (n : Int) := by omega
    go_wp2
    refine wp_region_held_drew (S := fun w' => w'.cell? ⟨g1, k * 2, none⟩ = some (.int .i64 fl) ∧ w'.cell? ⟨g1, k * 2 + 1, none⟩ = some (.int .i64 fh) ∧ w'.cell? ⟨g2, k * 2, none⟩ = some (.int .i64 fl) ∧ w'.cell? ⟨g2, k * 2 + 1, none⟩ = some (.int .i64 fh)) (by kernel_rfl) (⟨c0, c1', d0, d1⟩) (fun hHeld => ?_)
    refine tv 0 17 ?_; refine tv 1 18 ?_; refine tv 2 19 ?_; refine tv 3 20 ?_; refine tv 4 21 ?_; refine tv 5 22 ?_; refine tv 6 23 ?_; refine tv 7 24 ?_
    refine wpAnyH_ready (rs := [8]) (by kernel_rfl) (by simp) ?_
    refine AllReadyH.cons rfl (fun K hK => ?_) AllReadyH.nil
    go_simp
    refine (uh HE wr.drew).mono ?_
    rintro e w1 ⟨rfl, hb1⟩
    go_wp2_with fail
    refine hK.out _ _ (⟨g_cell (w := wr.drew) hb1 hHeld.1, g_cell (w := wr.drew) hb1 hHeld.2.1, g_cell (w := wr.drew) hb1 hHeld.2.2.1, g_cell (w := wr.drew) hb1 hHeld.2.2.2⟩) (fun hHeld2 => ?_)
    clear hK K hHeld; have hHeld := hHeld2; clear hHeld2
    try simp only [Act.put, p1, p2, p3]
    refine tv 9 26 ?_
    refine wpAnyH_done (by kernel_rfl) ?_ _
    go_wp2
    go_roundw
    case rel => exact ⟨k + 1, by omega, by go_num, below2 hbel.drew hb1⟩
    case measure => simp [intOf]; omega
   ·go_wp2
    go_ret
    exact ⟨rfl, hbel⟩

set_option maxHeartbeats 1000000 in
set_option maxRecDepth 100000 in
theorem markRangeS_any (l : List Rg) (v : Value) (B k0 : Nat) (w : World) (hs : l.length ≤ 1048576) (hk1 : k0 ≤ 100000000) (h : OwnR B w v l) :
  Calls Tryz.prog 13 #[v, .int .i64 (k0 : Int)] w fun e w' => e = .returned (.int .i64 ((k0 + l.length * 2 : Nat) : Int)) ∧ OwnR B w' v (marksR k0 l.length) ∧ w.grownBy w' v.ownBlock := by
 unfold OwnR at h ⊢
 rw [marksR_length]
 obtain ⟨n, hn⟩ : ∃ n, n = l.length := ⟨_, rfl⟩
 have HN := hide hn
 rw [← hn] at h hs ⊢
 clear hn
 rcases h.2 with ⟨rfl, hz⟩ | ⟨g, cap, cur, rfl, hbg, hh, hrest⟩
 ·subst hz
  have hl : l = [] := List.eq_nil_of_length_eq_zero (uh HN).symm
  subst hl
  go_enter Tryz.func13, Tryz.ntmps13
  go_wp2
  refine wp_loop_rounds 1 ?_
  rw [rounds_succ]
  go_wp2
  go_ret
  exact ⟨by simp, h, g_self _ _⟩
 ·clear hh hrest
  have H0 := hide h; clear h
  go_enter Tryz.func13, Tryz.ntmps13
  go_wp2
  go_loopw [1, 5] (fun m i wr => ∃ (k K : Nat), k ≤ n ∧ K = k0 + k * 2 ∧ i = .int .i64 k ∧ m = .int .i64 (K : Int) ∧ wr.ownsRow B 60 2 (.slice (some ⟨g, 0, none⟩) n cap) n (rgs (markedR k0 l k)) ∧ w.grownBy wr (some g)) (fun _ i _ => n - (intOf i).toNat)
  case atStart => exact ⟨0, k0, Nat.zero_le _, by simp, rfl, rfl, by rw [markedR_zero]; exact uh H0, g_self _ _⟩
  case round =>
   obtain ⟨k, K, hk, hK, rfl, rfl, hown, hgr⟩ := hrel
   by_cases hlt : k < n
   ·have hkl : k < l.length := by have := uh HN; omega
    have hset := hide (markedR_set (k0 := k0) hkl)
    have hlen := hide (markedR_length (k0 := k0) (l := l) (i := k) (by omega))
    have hKb : K ≤ 200000000 := by omega
    obtain ⟨y0, d0⟩ := g_some hown (j := k * 2) (by omega)
    obtain ⟨y1, d1⟩ := g_some hown (j := k * 2 + 1) (by omega)
    have f0 := hown.frozenAt (k * 2); have f1 := hown.frozenAt (k * 2 + 1); have s0 := hown.stored (k * 2) (.int .i64 (K : Int)); have s1 := s0.1.stored (k * 2 + 1) (.int .i64 ((K : Int) + 1))
    have e1 : ((rgs (markedR k0 l k)).set (k * 2) (.int .i64 (K : Int))).set (k * 2 + 1) (.int .i64 ((K : Int) + 1)) = rgs (markedR k0 l (k + 1)) := by
     rw [← uh hset, hK]
     exact rgs_set _ k (mkR (k0 + k * 2)) (by rw [uh hlen]; exact hkl)
    rw [e1] at s1
    have S1 := hide s1.1; have G1 := hide (g_store (j := k * 2 + 1) (g_store (j := k * 2) hgr (.int .i64 (K : Int))) (.int .i64 ((K : Int) + 1))); have HK := hide hK; clear hown hgr s0 s1 e1 hK
    go_wp2
    go_roundw
    case rel => exact ⟨k + 1, K + 2, by omega, by have := uh HK; omega, by go_num, by go_num, uh S1, uh G1⟩
    case measure => simp [intOf]; omega
   ·have e : k = n := by omega
    subst e
    have HK := hide hK; clear hK
    have hown' : wr.ownsRow B 60 2 (.slice (some ⟨g, 0, none⟩) k cap) k (rgs (marksR k0 k)) := by
     have e2 : markedR k0 l k = marksR k0 k := by rw [uh HN]; exact markedR_all
     rw [e2] at hown
     exact hown
    have OO := hide hown'; have GG := hide hgr; clear hown hown' hgr
    go_wp2
    go_ret
    exact ⟨by rw [← uh HK]; rfl, uh OO, uh GG⟩

end Go.Proofs.YtecognggnbopaacGreat
