/- Flags that change in their row, one mail after the other, plainly. -/
import Derived.Test.YtfemplekibpfoacFlagsFit
import Derived.Test.YtfemplekibpfoacRowStore
import Derived.Test.YtfemplekibpfoacIntRow
namespace Go.Proofs.Ytfemplekibpfoac
open Go.RowKit
set_option linter.unusedVariables false

theorem g_alloc {w W : World} {r : Option Nat} (h : w.grownBy W r) (o : Obj) : w.grownBy (W.alloc o) r := g_then h ((Below.refl _ _).alloc (Nat.le_refl _) o)
theorem g_drew {w W : World} {r : Option Nat} (h : w.grownBy W r) : w.grownBy W.drew r := ⟨h.os, h.tape, h.output, h.size, h.block⟩
theorem g_new {w W W2 : World} {r r2 : Option Nat} (h : w.grownBy W r) (hg : W.grownBy W2 r2) (hr : ∀ k, r2 = some k → w.heap.size ≤ k) : w.grownBy W2 r :=
  ⟨hg.os.trans h.os, hg.tape.trans h.tape, hg.output.trans h.output, Nat.le_trans h.size hg.size, fun k hk hne => (hg.block k (Nat.lt_of_lt_of_le hk h.size) (fun e => by have := hr k e.symm; omega)).trans (h.block k hk hne)⟩
theorem g_setnew {w W : World} {r : Option Nat} {g j : Nat} (h : w.grownBy W r) (hg : w.heap.size ≤ g) (u : Value) : w.grownBy (W.setCell ⟨g, j, none⟩ u) r :=
  g_new h (g_store (g_self W (some g)) u) (fun k hk => by cases hk; exact hg)
namespace Plain
def flRow (b : Bx) (s : List Rg) (how bits since : Int) (k : Nat) : List Ml := (b.mails.take k).map (newM b s how bits since) ++ b.mails.drop k
theorem flRow_len (b : Bx) (s : List Rg) (how bits since : Int) (k : Nat) : (flRow b s how bits since k).length = b.mails.length := by simp [flRow]; omega
theorem flRow_zero (b : Bx) (s : List Rg) (how bits since : Int) : flRow b s how bits since 0 = b.mails := by simp [flRow]
theorem flRow_all (b : Bx) (s : List Rg) (how bits since : Int) : flRow b s how bits since b.mails.length = b.mails.map (newM b s how bits since) := by simp [flRow]
theorem flRow_at {b : Bx} {s : List Rg} {how bits since : Int} {k : Nat} {m : Ml} (h : b.mails[k]? = some m) : (flRow b s how bits since k)[k]? = some m := by
  have hk := (List.getElem?_eq_some_iff.1 h).1
  unfold flRow
  rw [List.getElem?_append_right (by simp; omega), List.getElem?_drop]
  have : k + (k - (List.map (newM b s how bits since) (b.mails.take k)).length) = k := by simp; omega
  rw [this]; exact h
theorem flRow_next {b : Bx} {s : List Rg} {how bits since : Int} {k : Nat} {m : Ml} (h : b.mails[k]? = some m) : flRow b s how bits since (k + 1) = (flRow b s how bits since k).set k (newM b s how bits since m) := by
  have hk := (List.getElem?_eq_some_iff.1 h).1
  have e := (List.getElem?_eq_some_iff.1 h).2
  unfold flRow
  rw [List.set_append_right _ _ (by simp; omega), List.take_add_one, h, List.drop_eq_getElem_cons hk, e]
  have : k - (List.map (newM b s how bits since) (b.mails.take k)).length = 0 := by simp; omega
  rw [this, List.set_cons_zero]
  simp
theorem set_same {α : Type} {l : List α} {k : Nat} {x : α} (h : l[k]? = some x) : l.set k x = l := by
  apply List.ext_getElem?
  intro i
  by_cases e : k = i
  · subst e
    rw [List.getElem?_set_self (List.getElem?_eq_some_iff.1 h).1, h]
  · rw [List.getElem?_set_ne e]
theorem flRow_same {b : Bx} {s : List Rg} {how bits since : Int} {k : Nat} {m : Ml} (h : b.mails[k]? = some m) (hn : isNew s how bits since m = false) : flRow b s how bits since (k + 1) = flRow b s how bits since k := by
  rw [flRow_next h, show newM b s how bits since m = m by unfold newM; rw [hn]; rfl, set_same (flRow_at h)]
def newTo (b : Bx) (s : List Rg) (how bits since : Int) (k : Nat) : List Int := newU s how bits since (b.mails.take k)
def lateTo (b : Bx) (s : List Rg) (since : Int) (k : Nat) : List Int := lateU s since (b.mails.take k)
theorem newTo_next {b : Bx} {s : List Rg} {how bits since : Int} {k : Nat} {m : Ml} (h : b.mails[k]? = some m) : newTo b s how bits since (k + 1) = if isNew s how bits since m = true then newTo b s how bits since k ++ [m.uid] else newTo b s how bits since k := by
  unfold newTo newU
  rw [List.take_add_one, h, List.filter_append, List.map_append]
  by_cases hn : isNew s how bits since m = true
  · simp [hn]
  · simp [hn]
theorem lateTo_next {b : Bx} {s : List Rg} {since : Int} {k : Nat} {m : Ml} (h : b.mails[k]? = some m) : lateTo b s since (k + 1) = if isLate s since m = true then lateTo b s since k ++ [m.uid] else lateTo b s since k := by
  unfold lateTo lateU
  rw [List.take_add_one, h, List.filter_append, List.map_append]
  by_cases hn : isLate s since m = true
  · simp [hn]
  · simp [hn]
theorem newTo_len (b : Bx) (s : List Rg) (how bits since : Int) (k : Nat) : (newTo b s how bits since k).length ≤ b.mails.length := by
  unfold newTo newU
  rw [List.length_map]
  exact Nat.le_trans (List.length_filter_le _ _) (by simp; omega)
theorem lateTo_len (b : Bx) (s : List Rg) (since : Int) (k : Nat) : (lateTo b s since k).length ≤ b.mails.length := by
  unfold lateTo lateU
  rw [List.length_map]
  exact Nat.le_trans (List.length_filter_le _ _) (by simp; omega)
theorem newTo_all (b : Bx) (s : List Rg) (how bits since : Int) : newTo b s how bits since b.mails.length = newU s how bits since b.mails := by unfold newTo; rw [List.take_length]
theorem lateTo_all (b : Bx) (s : List Rg) (since : Int) : lateTo b s since b.mails.length = lateU s since b.mails := by unfold lateTo; rw [List.take_length]
end Plain
end Go.Proofs.Ytfemplekibpfoac
