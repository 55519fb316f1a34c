/- Several texts in one. -/
import Derived.Below
import Derived.Test.YtecognggnbopaacGreatPlainA
import Derived.Laws.Strings
import GoSem.Op.String
import Derived.WideAt
import Derived.WideShapes
import Derived.Test.YtecognggnbopaacGreatStoreRow
import Derived.Test.YtecognggnbopaacGreatBoxP
namespace Go.Proofs.YtecognggnbopaacGreat.Plain

structure Fl where
 name : ByteArray
 text : ByteArray
 kept : Int

end Go.Proofs.YtecognggnbopaacGreat.Plain

namespace Go.Proofs.YtecognggnbopaacGreat.Plain

def nameB (n : ByteArray) : Bool := decide (1 ≤ n.size) && decide (n.size ≤ 8)
def fileB (f : Fl) : Bool := nameB f.name && decide (f.text.size ≤ 20000) && decide (0 ≤ f.kept) && decide (f.kept ≤ (f.text.size : Int))
def ltB (a b : ByteArray) : Bool := Op.bytesLess a.toList b.toList

theorem less_asymm : ∀ a b : List UInt8, (Op.bytesLess a b || a == b) = !Op.bytesLess b a
 | [], [] => rfl
 | [], _ :: _ => rfl
 | _ :: _, [] => rfl
 | x :: a, y :: b => by
  have ih := less_asymm a b
  simp only [Op.bytesLess]
  by_cases h : x = y
  ·subst h
   simp [← ih]
  ·have h2 : (x == y) = false := by simp [h]
   have h3 : (y == x) = false := by simp [Ne.symm h]
   by_cases h4 : x < y
   ·have h5 : ¬ y < x := by simp only [UInt8.lt_iff_toNat_lt] at *; omega
    simp [h4, h5, h3]
   ·have h5 : y < x := by
     have : x.toNat ≠ y.toNat := fun e => h (UInt8.toNat_inj.1 e)
     simp only [UInt8.lt_iff_toNat_lt] at *; omega
    simp [h4, h5, h2, h3]
theorem leB (a b : ByteArray) : (Op.bytesLess a.toList b.toList || a.toList == b.toList) = !ltB b a := less_asymm _ _

def DiskR (l : List Fl) : Prop := l.length ≤ 30 ∧ ∀ (i : Nat) (f : Fl), l[i]? = some f → fileB f = true ∧ ∀ (j : Nat) (p : Fl), j + 1 = i → l[j]? = some p → ltB p.name f.name = true
/-- The first k are right. -/
def OkTo (l : List Fl) (k : Nat) : Prop := ∀ (i : Nat) (f : Fl), i < k → l[i]? = some f → fileB f = true ∧ ∀ (j : Nat) (p : Fl), j + 1 = i → l[j]? = some p → ltB p.name f.name = true
theorem OkTo.zero (l : List Fl) : OkTo l 0 := fun i f h => by omega
theorem OkTo.all {l : List Fl} (h : OkTo l l.length) (hl : l.length ≤ 30) : DiskR l :=
 ⟨hl, fun i f hf => h i f (by
  rcases Nat.lt_or_ge i l.length with h1 | h1
  ·exact h1
  ·rw [List.getElem?_eq_none h1] at hf; cases hf) hf⟩
theorem OkTo.first {l : List Fl} {f : Fl} (hf : l[0]? = some f) (h1 : fileB f = true) : OkTo l 1 := fun i g hi hg => by
 obtain rfl : i = 0 := by omega
 rw [hf] at hg; cases hg
 exact ⟨h1, fun j p hj => by omega⟩
theorem OkTo.more {l : List Fl} {k : Nat} {f p : Fl} (h : OkTo l (k + 1)) (hf : l[k + 1]? = some f) (hp : l[k]? = some p) (h1 : fileB f = true) (h2 : ltB p.name f.name = true) : OkTo l (k + 2) := fun i g hi hg => by
 rcases Nat.lt_or_ge i (k + 1) with h3 | h3
 ·exact h i g h3 hg
 ·obtain rfl : i = k + 1 := by omega
  rw [hf] at hg; cases hg
  refine ⟨h1, fun j q hj hq => ?_⟩
  obtain rfl : j = k := by omega
  rw [hp] at hq; cases hq
  exact h2
end Go.Proofs.YtecognggnbopaacGreat.Plain

namespace Go.Proofs.YtecognggnbopaacGreat.Plain
set_option linter.unusedVariables false

theorem less_is : ∀ a b : List UInt8, Op.bytesLess a b = bytesBefore a b
  | [], [] => rfl
  | [], _ :: _ => rfl
  | _ :: _, [] => rfl
  | x :: a, y :: b => by simp only [Op.bytesLess, bytesBefore, less_is a b]
theorem ltB_is (a b : ByteArray) : ltB a b = bytesBefore a.data.toList b.data.toList := by
  unfold ltB; rw [less_is, ByteArray.toList_eq, ByteArray.toList_eq]
theorem ltB_irrefl (a : ByteArray) : ltB a a = false := by rw [ltB_is]; exact WideAt.bytes_irrefl _
theorem ltB_trans {a b c : ByteArray} (h1 : ltB a b = true) (h2 : ltB b c = true) : ltB a c = true := by
  rw [ltB_is] at *; exact WideShapes.bytes_trans _ _ _ h1 h2
theorem ltB_asymm {a b : ByteArray} (h : ltB a b = true) : ltB b a = false := by
  cases e : ltB b a
  · rfl
  · have := ltB_trans h e; rw [ltB_irrefl] at this; cases this
theorem ltB_total {a b : ByteArray} (h : a ≠ b) : ltB a b = true ∨ ltB b a = true := by
  rw [ltB_is, ltB_is]
  exact WideAt.bytes_total _ _ fun e => h (WideShapes.bytes_inj e)
theorem ltB_ne {a b : ByteArray} (h : ltB a b = true) : a ≠ b := fun e => by rw [e, ltB_irrefl] at h; cases h
theorem same_iff {a b : ByteArray} : (a.toList == b.toList) = true ↔ a = b := by
  rw [beq_iff_eq, ByteArray.toList_eq, ByteArray.toList_eq]
  exact ⟨fun h => WideShapes.bytes_inj h, fun h => by rw [h]⟩
theorem same_dec (a b : ByteArray) : (a.toList == b.toList) = decide (a = b) := by
  rw [Bool.eq_iff_iff, same_iff, decide_eq_true_iff]

def Asc (l : List Fl) : Prop := l.Pairwise fun f g => ltB f.name g.name = true
theorem pair_of_steps : ∀ (l : List Fl), (∀ (i : Nat) (f p : Fl), l[i + 1]? = some f → l[i]? = some p → ltB p.name f.name = true) → Asc l
  | [], _ => List.Pairwise.nil
  | [f], _ => by simp [Asc]
  | f :: g :: r, h => by
    have ih : Asc (g :: r) := pair_of_steps (g :: r) fun i x p hx hp => h (i + 1) x p (by simpa using hx) (by simpa using hp)
    have h0 : ltB f.name g.name = true := h 0 g f rfl rfl
    refine List.Pairwise.cons ?_ ih
    intro x hx
    rcases List.mem_cons.1 hx with rfl | hx
    · exact h0
    · exact ltB_trans h0 ((List.pairwise_cons.1 ih).1 x hx)
theorem DiskR_iff {l : List Fl} : DiskR l ↔ l.length ≤ 30 ∧ (∀ f ∈ l, fileB f = true) ∧ Asc l := by
  constructor
  · intro ⟨h1, h2⟩
    refine ⟨h1, fun f hf => ?_, pair_of_steps l fun i f p hf hp => (h2 (i + 1) f hf).2 i p rfl hp⟩
    obtain ⟨i, hi, rfl⟩ := List.getElem_of_mem hf
    exact (h2 i _ (List.getElem?_eq_getElem hi)).1
  · intro ⟨h1, h2, h3⟩
    refine ⟨h1, fun i f hf => ⟨h2 f (List.mem_of_getElem? hf), fun j p hj hp => ?_⟩⟩
    subst hj
    have a1 := (List.getElem?_eq_some_iff.1 hf); have a2 := (List.getElem?_eq_some_iff.1 hp)
    obtain ⟨x1, rfl⟩ := a1
    obtain ⟨x2, rfl⟩ := a2
    exact List.pairwise_iff_getElem.1 h3 j (j + 1) x2 x1 (by omega)

def putL (l : List Fl) (f : Fl) : List Fl := l.filter (fun g => ltB g.name f.name) ++ f :: l.filter (fun g => ltB f.name g.name)
def withoutL (l : List Fl) (n : ByteArray) : List Fl := l.filter fun g => !(g.name.toList == n.toList)

theorem putL_asc {l : List Fl} (f : Fl) (h : Asc l) : Asc (putL l f) := by
  unfold Asc putL
  rw [List.pairwise_append]
  refine ⟨h.filter _, ?_, ?_⟩
  · refine List.Pairwise.cons ?_ (h.filter _)
    intro g hg
    exact (List.mem_filter.1 hg).2
  · intro g hg x hx
    have h1 := (List.mem_filter.1 hg).2
    rcases List.mem_cons.1 hx with rfl | hx
    · exact h1
    · exact ltB_trans h1 (List.mem_filter.1 hx).2
theorem putL_mem {l : List Fl} {f g : Fl} (h : g ∈ putL l f) : g = f ∨ g ∈ l := by
  unfold putL at h
  rcases List.mem_append.1 h with h | h
  · exact .inr (List.mem_filter.1 h).1
  · rcases List.mem_cons.1 h with h | h
    · exact .inl h
    · exact .inr (List.mem_filter.1 h).1
def sames (l : List Fl) (n : ByteArray) : List Fl := l.filter fun g => g.name.toList == n.toList
theorem three (l : List Fl) (n : ByteArray) : (l.filter (fun g => ltB g.name n)).length + (l.filter (fun g => ltB n g.name)).length + (sames l n).length = l.length := by
  unfold sames
  induction l with
  | nil => rfl
  | cons g r ih =>
    simp only [List.filter_cons, same_dec] at ih ⊢
    by_cases e : g.name = n
    · subst e; simp [ltB_irrefl]; omega
    · rcases ltB_total e with h | h
      · simp [h, ltB_asymm h, e]; omega
      · simp [h, ltB_asymm h, e]; omega
theorem putL_length (l : List Fl) (f : Fl) : (putL l f).length + (sames l f.name).length = l.length + 1 := by
  have := three l f.name
  simp [putL]; omega
theorem putL_len_le (l : List Fl) (f : Fl) : (putL l f).length ≤ l.length + 1 := by
  have := putL_length l f
  omega
theorem withoutL_asc {l : List Fl} (n : ByteArray) (h : Asc l) : Asc (withoutL l n) := h.filter _
theorem withoutL_mem {l : List Fl} {n : ByteArray} {g : Fl} (h : g ∈ withoutL l n) : g ∈ l := (List.mem_filter.1 h).1

theorem DiskR.put {l : List Fl} {f : Fl} (h : DiskR l) (hf : fileB f = true) (hl : (putL l f).length ≤ 30) : DiskR (putL l f) := by
  obtain ⟨h1, h2, h3⟩ := DiskR_iff.1 h
  refine DiskR_iff.2 ⟨hl, fun g hg => ?_, putL_asc f h3⟩
  rcases putL_mem hg with rfl | hg
  · exact hf
  · exact h2 g hg
theorem DiskR.without {l : List Fl} (n : ByteArray) (h : DiskR l) : DiskR (withoutL l n) := by
  obtain ⟨h1, h2, h3⟩ := DiskR_iff.1 h
  exact DiskR_iff.2 ⟨Nat.le_trans (List.length_filter_le _ _) h1, fun g hg => h2 g (withoutL_mem hg), withoutL_asc n h3⟩
end Go.Proofs.YtecognggnbopaacGreat.Plain

namespace Go.Proofs.YtecognggnbopaacGreat
open Go.RowKit
open Plain
set_option linter.unusedVariables false

namespace Plain
structure FitSt (s : Sx) : Prop where
 len : s.boxes.length ≤ 1048577
 each : ∀ b ∈ s.boxes, FitBx b
/-- The box at a place is right, and behind the one ahead of it. -/
def okB (s : Sx) (i : Nat) : Bool := match s.boxes[i]? with
 | none => true
 | some b => boxOk b && decide (b.valid < s.valid) && (i == 0 || match s.boxes[i - 1]? with
  | none => true
  | some p => ltB p.name b.name)
def okTo (s : Sx) (k : Nat) : Bool := (List.range k).all (okB s)
def storeOk (s : Sx) : Bool := okTo s s.boxes.length && inI (s.boxes.length : Int) 1 4 && inI s.valid 2 9999
theorem okTo_zero (s : Sx) : okTo s 0 = true := rfl
theorem okTo_succ (s : Sx) (k : Nat) : okTo s (k + 1) = (okTo s k && okB s k) := by simp [okTo, List.range_succ]
theorem okTo_no {s : Sx} {k n : Nat} (hk : k < n) (h : okB s k = false) : okTo s n = false := by
 unfold okTo
 rw [List.all_eq_false]
 exact ⟨k, List.mem_range.2 hk, by rw [h]; decide⟩
theorem storeOk_no {s : Sx} {k : Nat} (hk : k < s.boxes.length) (h : okB s k = false) : storeOk s = false := by unfold storeOk; rw [okTo_no hk h]; rfl
theorem okB_first {s : Sx} {b : Bx} (h : s.boxes[0]? = some b) : okB s 0 = (boxOk b && decide (b.valid < s.valid)) := by simp only [okB, h, beq_self_eq_true, Bool.true_or, Bool.and_true]
theorem okB_next {s : Sx} {k : Nat} {b p : Bx} (h : s.boxes[k + 1]? = some b) (hp : s.boxes[k]? = some p) : okB s (k + 1) = (boxOk b && decide (b.valid < s.valid) && ltB p.name b.name) := by
 simp only [okB, h, Nat.add_sub_cancel, hp]
 rfl
theorem okB_box {s : Sx} {k : Nat} {b : Bx} (h : s.boxes[k]? = some b) (hb : boxOk b = false) : okB s k = false := by simp only [okB, h, hb, Bool.false_and]
theorem okB_valid {s : Sx} {k : Nat} {b : Bx} (h : s.boxes[k]? = some b) (hb : ¬ b.valid < s.valid) : okB s k = false := by simp only [okB, h, decide_eq_false hb, Bool.and_false, Bool.false_and]
/-- A right store, in other words. -/
structure RightSt (s : Sx) : Prop where
 each : ∀ b ∈ s.boxes, boxOk b = true ∧ b.valid < s.valid
 asc : s.boxes.Pairwise fun p b => ltB p.name b.name = true
 one : 1 ≤ s.boxes.length
 four : s.boxes.length ≤ 4
 v1 : 2 ≤ s.valid
 v2 : s.valid ≤ 9999
theorem asc_pairs : ∀ (l : List Bx), (∀ k b p, l[k + 1]? = some b → l[k]? = some p → ltB p.name b.name = true) → l.Pairwise fun p b => ltB p.name b.name = true := by
 intro l
 induction l with
 | nil => intro _; exact List.Pairwise.nil
 | cons x l ih =>
  intro h
  have ht := ih (fun k b p h1 h2 => h (k + 1) b p (by simpa using h1) (by simpa using h2))
  refine List.pairwise_cons.2 ⟨?_, ht⟩
  cases l with
  | nil => intro b hb; cases hb
  | cons y l =>
   have h0 := h 0 y x rfl rfl
   intro b hb
   rcases List.mem_cons.1 hb with rfl | hb
   ·exact h0
   ·exact ltB_trans h0 ((List.pairwise_cons.1 ht).1 b hb)
theorem right_st {s : Sx} (h : storeOk s = true) : RightSt s := by
 unfold storeOk at h
 rw [Bool.and_eq_true, Bool.and_eq_true, inI_iff, inI_iff] at h
 obtain ⟨⟨h1, h2⟩, h3⟩ := h
 have hall : ∀ k, k < s.boxes.length → okB s k = true := fun k hk => List.all_eq_true.1 h1 k (List.mem_range.2 hk)
 refine ⟨fun b hb => ?_, asc_pairs _ (fun k b p hb hp => ?_), by omega, by omega, h3.1, h3.2⟩
 ·obtain ⟨k, hk, rfl⟩ := List.mem_iff_getElem.1 hb
  have := hall k hk
  unfold okB at this
  rw [List.getElem?_eq_getElem hk] at this
  simp only [Bool.and_eq_true, decide_eq_true_eq] at this
  exact this.1
 ·have := hall (k + 1) (List.getElem?_eq_some_iff.1 hb).1
  rw [okB_next hb hp] at this
  simp only [Bool.and_eq_true] at this
  exact this.2
/-- A box of that name. -/
def sameN (n : ByteArray) (b : Bx) : Bool := b.name.toList == n.toList
theorem sameN_iff {n : ByteArray} {b : Bx} : sameN n b = true ↔ b.name = n := same_iff
def boxAt (s : Sx) (n : ByteArray) : Option Bx := s.boxes.find? (sameN n)
/-- The first box of the same name is this one. -/
def putX (b : Bx) : List Bx → List Bx
 | [] => []
 | x :: l => if sameN b.name x then b :: l else x :: putX b l
theorem putX_len (b : Bx) (l : List Bx) : (putX b l).length = l.length := by
 induction l with
 | nil => rfl
 | cons x l ih => unfold putX; split <;> simp [ih]
theorem putX_at {b x : Bx} {l : List Bx} {k : Nat} (hx : l[k]? = some x) (h : sameN b.name x = true) (hn : ∀ y ∈ l.take k, sameN b.name y = false) : putX b l = l.set k b := by
 induction l generalizing k with
 | nil => simp at hx
 | cons y l ih =>
  cases k with
  | zero => simp at hx; subst hx; unfold putX; rw [if_pos h]; rfl
  | succ k =>
   have h0 := hn y (by simp)
   unfold putX
   rw [if_neg (by rw [h0]; decide), ih (by simpa using hx) (fun z hz => hn z (by simp [hz]))]
   rfl
theorem putX_no {b : Bx} {l : List Bx} (hn : ∀ y ∈ l, sameN b.name y = false) : putX b l = l := by
 induction l with
 | nil => rfl
 | cons y l ih =>
  unfold putX
  rw [if_neg (by rw [hn y (by simp)]; decide), ih (fun z hz => hn z (by simp [hz]))]
def putSt (s : Sx) (b : Bx) : Sx := ⟨putX b s.boxes, s.valid⟩
theorem boxAt_first {s : Sx} {n : ByteArray} {k : Nat} {b : Bx} (h : s.boxes[k]? = some b) (hs : sameN n b = true) (hn : ∀ y ∈ s.boxes.take k, sameN n y = false) : boxAt s n = some b := by
 unfold boxAt
 rw [← List.take_append_drop k s.boxes, List.find?_append, List.find?_eq_none.2 (fun y hy => by rw [hn y hy]; decide), Option.none_or]
 obtain ⟨hk, rfl⟩ := List.getElem?_eq_some_iff.1 h
 rw [List.drop_eq_getElem_cons hk, List.find?_cons_of_pos hs]
theorem boxAt_none {s : Sx} {n : ByteArray} (hn : ∀ y ∈ s.boxes, sameN n y = false) : boxAt s n = none := List.find?_eq_none.2 (fun y hy => by rw [hn y hy]; decide)
theorem none_more {l : List Bx} {n : ByteArray} {k : Nat} {b : Bx} (h : l[k]? = some b) (hs : sameN n b = false) (hn : ∀ y ∈ l.take k, sameN n y = false) : ∀ y ∈ l.take (k + 1), sameN n y = false := by
 intro y hy
 rw [List.take_add_one, h] at hy
 rcases List.mem_append.1 hy with hy | hy
 ·exact hn y hy
 ·simp at hy; subst hy; exact hs
/-- What BoxAt answers. -/
def atV (s : Sx) (n : ByteArray) : Bx × Bool := match boxAt s n with
 | some b => (b, true)
 | none => (bx0, false)
theorem atV_some {s : Sx} {n : ByteArray} {b : Bx} (h : boxAt s n = some b) : atV s n = (b, true) := by unfold atV; rw [h]
theorem atV_none {s : Sx} {n : ByteArray} (h : boxAt s n = none) : atV s n = (bx0, false) := by unfold atV; rw [h]
theorem boxAt_mem {s : Sx} {n : ByteArray} {b : Bx} (h : boxAt s n = some b) : b ∈ s.boxes ∧ b.name = n := ⟨List.mem_of_find?_eq_some h, sameN_iff.1 (List.find?_some (p := sameN n) h)⟩
end Plain
/-- A store of one's own. -/
def OwnSt (B : Nat) (w : World) (v : Value) (l : List Bx) : Prop := ∃ L : List Lb, L.map (·.b) = l ∧ OwnBs B w v L ∧ L.Pairwise ApartB
/-- A store that is read: its boxes may have rows in common. -/
def ReadSt (B : Nat) (w : World) (v : Value) (l : List Bx) : Prop := ∃ L : List Lb, L.map (·.b) = l ∧ OwnBs B w v L
theorem OwnSt.read {B : Nat} {w : World} {v : Value} {l : List Bx} (h : OwnSt B w v l) : ReadSt B w v l := by obtain ⟨L, h1, h2, _⟩ := h; exact ⟨L, h1, h2⟩
theorem OwnSt.up {B : Nat} {w w' : World} {v : Value} {l : List Bx} (h : OwnSt B w v l) (hb : Below w.heap.size w w') : OwnSt B w' v l := by obtain ⟨L, h1, h2, h3⟩ := h; exact ⟨L, h1, h2.up hb, h3⟩
theorem ReadSt.up {B : Nat} {w w' : World} {v : Value} {l : List Bx} (h : ReadSt B w v l) (hb : Below w.heap.size w w') : ReadSt B w' v l := by obtain ⟨L, h1, h2⟩ := h; exact ⟨L, h1, h2.up hb⟩
theorem OwnSt.drew {B : Nat} {w : World} {v : Value} {l : List Bx} (h : OwnSt B w v l) : OwnSt B w.drew v l := by obtain ⟨L, h1, h2, h3⟩ := h; exact ⟨L, h1, h2.drew, h3⟩
theorem ReadSt.drew {B : Nat} {w : World} {v : Value} {l : List Bx} (h : ReadSt B w v l) : ReadSt B w.drew v l := by obtain ⟨L, h1, h2⟩ := h; exact ⟨L, h1, h2.drew⟩
theorem OwnSt.based {B B' : Nat} {w : World} {v : Value} {l : List Bx} (h : OwnSt B w v l) (hB : B' ≤ B) : OwnSt B' w v l := by obtain ⟨L, h1, h2, h3⟩ := h; exact ⟨L, h1, h2.based hB, h3⟩
theorem OwnSt.shape {B : Nat} {w : World} {v : Value} {l : List Bx} (h : OwnSt B w v l) : ∃ a c, v = .slice a l.length c := by
 obtain ⟨L, h1, h2, _⟩ := h
 obtain ⟨a, c, e⟩ := g_shape h2.row
 exact ⟨a, c, by rw [e, ← h1, List.length_map]⟩
theorem ReadSt.shape {B : Nat} {w : World} {v : Value} {l : List Bx} (h : ReadSt B w v l) : ∃ a c, v = .slice a l.length c := by
 obtain ⟨L, h1, h2⟩ := h
 obtain ⟨a, c, e⟩ := g_shape h2.row
 exact ⟨a, c, by rw [e, ← h1, List.length_map]⟩
end Go.Proofs.YtecognggnbopaacGreat
