/- Views, plainly. Nothing of the program stands here. -/
import Derived.Test.YtifiadkbepdehaaBoxP
import Derived.Test.YtifiadkbepdehaaVwVal
namespace Go.Proofs.Ytifiadkbepdehaa.Plain
set_option linter.unusedVariables false
/-- The Uid at k is right, and above the one ahead of it. -/
def uidAt (l : List Int) (k : Nat) : Bool := inI (l.getD k 0) 1 9999 && (decide (k = 0) || decide (l.getD (k - 1) 0 < l.getD k 0))
def uidsTo (l : List Int) : Nat → Bool
  | 0 => true
  | k + 1 => uidsTo l k && uidAt l k
theorem uidsTo_mono {l : List Int} {k : Nat} (h : uidsTo l k = false) : ∀ n, k ≤ n → uidsTo l n = false := by
  intro n hn
  induction n with
  | zero => rw [show k = 0 by omega] at h; exact h
  | succ n ih =>
    by_cases e : k = n + 1
    · rw [← e]; exact h
    · rw [uidsTo, ih (by omega)]; rfl
def viewOk (x : Vw) : Bool := nameOkL x.box.data.toList && inI x.valid 1 9999 && (decide (x.uids.length ≤ 30) && uidsTo x.uids x.uids.length) && inI x.mod 1 100000
/-- All of a box, as it is. -/
def viewOf (b : Bx) : Vw := ⟨b.name, b.valid, b.mails.map (·.uid), b.mod⟩
/-- The place of a number, from 1 on; 0 without it. -/
def placeIn (l : List Int) (u : Int) : Int := match l.findIdx? (· == u) with
  | some k => (k : Int) + 1
  | none => 0
theorem placeIn_at {l : List Int} {u : Int} {k : Nat} (h : l[k]? = some u) (hb : ∀ j, j < k → l[j]? ≠ some u) : placeIn l u = (k : Int) + 1 := by
  have hk : k < l.length := (List.getElem?_eq_some_iff.1 h).1
  have he : l[k] = u := (List.getElem?_eq_some_iff.1 h).2
  have : l.findIdx? (· == u) = some k := by
    rw [List.findIdx?_eq_some_iff_getElem]
    refine ⟨hk, by simp [he], fun j hj => ?_⟩
    have := hb j hj
    rw [List.getElem?_eq_getElem (by omega)] at this
    simpa using this
  unfold placeIn
  rw [this]
theorem placeIn_no {l : List Int} {u : Int} (hb : ∀ j, j < l.length → l[j]? ≠ some u) : placeIn l u = 0 := by
  have : l.findIdx? (· == u) = none := by
    rw [List.findIdx?_eq_none_iff]
    intro x hx
    obtain ⟨j, hj, rfl⟩ := List.getElem_of_mem hx
    have := hb j hj
    rw [List.getElem?_eq_getElem hj] at this
    simpa using this
  unfold placeIn
  rw [this]
end Go.Proofs.Ytifiadkbepdehaa.Plain
