/- Flags: the specification's l06Low, ReadFlags. -/
import Derived.Test.YtmaoadgpcejepaaFlagTextS
import Derived.Lib.ConvBytes
namespace Go.Proofs.Ytmaoadgpcejepaa
open Go.RowKit
open Plain
set_option linter.unusedVariables false

def lowAt (l : List UInt8) (k j : Nat) : UInt8 := if j < k then lowB (l.getD j 0) else l.getD j 0
theorem low_zero (l : List UInt8) (j : Nat) : lowAt l 0 j = l.getD j 0 := if_neg (Nat.not_lt_zero _)
theorem low_here (l : List UInt8) (k : Nat) : lowAt l k k = l.getD k 0 := if_neg (Nat.lt_irrefl _)
theorem low_next (l : List UInt8) (k : Nat) : lowAt l (k + 1) k = lowB (l.getD k 0) := if_pos (Nat.lt_succ_self _)
theorem low_else (l : List UInt8) {k j : Nat} (h : j ≠ k) : lowAt l (k + 1) j = lowAt l k j := by
  unfold lowAt
  by_cases h1 : j < k
  · rw [if_pos h1, if_pos (by omega)]
  · rw [if_neg h1, if_neg (by omega)]
/-- The row under way. -/
structure LowRow (l : List UInt8) (n g k : Nat) (w : World) : Prop where
  cell : ∀ j, j < n → w.cell? ⟨g, j, none⟩ = some (.int .u8 ((lowAt l k j).toNat : Int))
  open_ : ∀ j, j < n → w.frozen? ⟨g, j, none⟩ = false
theorem LowRow.on {l : List UInt8} {n g k : Nat} {w : World} (h : LowRow l n g k w) (hn : lowB (l.getD k 0) = l.getD k 0) : LowRow l n g (k + 1) w :=
  ⟨fun j hj => by
    by_cases e : j = k
    · subst e; rw [h.cell j hj, low_here, low_next, hn]
    · rw [h.cell j hj, low_else l e], h.open_⟩
theorem LowRow.put {l : List UInt8} {n g k : Nat} {w : World} (h : LowRow l n g k w) (hk : k < n) : LowRow l n g (k + 1) (w.setCell ⟨g, k, none⟩ (.int .u8 ((lowB (l.getD k 0)).toNat : Int))) :=
  ⟨fun j hj => by
    by_cases e : j = k
    · subst e
      rw [World.cell?_setCell_same (w := w) (a := ⟨g, j, none⟩) (v := .int .u8 ((lowB (l.getD j 0)).toNat : Int)) (h.cell j hj), low_next]
    · rw [World.cell?_setCell_other (w := w) (a := ⟨g, k, none⟩) (b := ⟨g, j, none⟩) (v := .int .u8 ((lowB (l.getD k 0)).toNat : Int)) (by intro x; cases x; exact e rfl), h.cell j hj, low_else l e],
   fun j hj => by rw [World.frozen?_setCell]; exact h.open_ j hj⟩
namespace Plain
theorem shut_parts {t : List UInt8} (h : shutF t = true) : 2 ≤ t.length ∧ t[0]? = some 40 ∧ t[t.length - 1]? = some 41 := by
  unfold shutF at h
  simpa [and_assoc] using h
theorem shut_not {t : List UInt8} (h2 : 2 ≤ t.length) (h : shutF t = false) (h0 : t[0]? = some 40) : t[t.length - 1]? ≠ some 41 := by
  intro h1
  unfold shutF at h
  rw [decide_eq_true h2, h0, h1] at h
  cases h
end Plain

end Go.Proofs.Ytmaoadgpcejepaa
