/- Flags: the specification's l06Low, ReadFlags. -/
import Derived.Test.YtkjlponggednoacFlagTextS
import Derived.Lib.ConvBytes
namespace Go.Proofs.Ytkjlponggednoac
open Go.RowKit
open Plain
set_option linter.unusedVariables false

/-- A text as bytes: a new row. -/
theorem low_bytes (w : World) (T : ByteArray) : ∃ (C : Nat) (w5 : World), (convert 9 79 (.string T)).run Try.prog w = .ok (.slice (some ⟨w.heap.size, 0, none⟩) T.size C) w5 ∧
    (∀ j, j < T.size → w5.cell? ⟨w.heap.size, j, none⟩ = some (.int .u8 ((T.data.toList.getD j 0).toNat : Int))) ∧ (∀ j, j < T.size → w5.frozen? ⟨w.heap.size, j, none⟩ = false) ∧ Below w.heap.size w w5 := by
  have hnew := Lib.bytesWorld_at_new w 5 T
  refine ⟨grownCap w T.size 0 5, Lib.bytesWorld w 5 T, Lib.run_convert_string_bytes (P := Try.prog) w 9 79 5 T Try.underlying9 Try.underlying79 Try.underlying5, ?_, ?_, ?_⟩
  · intro j hj; exact Lib.bytesWorld_cell w 5 T j hj
  · intro j hj
    have : T.size ≤ (Lib.bytesCells w 5 T).size := by simp [Lib.bytesCells]
    simp [World.frozen?, hnew]
    omega
  · exact ⟨rfl, rfl, rfl, by rw [Lib.bytesWorld_size]; omega, fun k hk => Lib.bytesWorld_at_old w _ T k hk⟩

def lowAt (l : List UInt8) (k j : Nat) : UInt8 := if j < k then lowB (l.getD j 0) else l.getD j 0
theorem low_zero (l : List UInt8) (j : Nat) : lowAt l 0 j = l.getD j 0 := if_neg (Nat.not_lt_zero _)
theorem low_here (l : List UInt8) (k : Nat) : lowAt l k k = l.getD k 0 := if_neg (Nat.lt_irrefl _)
theorem low_next (l : List UInt8) (k : Nat) : lowAt l (k + 1) k = lowB (l.getD k 0) := if_pos (Nat.lt_succ_self _)
theorem low_else (l : List UInt8) {k j : Nat} (h : j ≠ k) : lowAt l (k + 1) j = lowAt l k j := by
  unfold lowAt
  by_cases h1 : j < k
  · rw [if_pos h1, if_pos (by omega)]
  · rw [if_neg h1, if_neg (by omega)]
/-- The row under way. -/
structure LowRow (l : List UInt8) (n g k : Nat) (w : World) : Prop where
  cell : ∀ j, j < n → w.cell? ⟨g, j, none⟩ = some (.int .u8 ((lowAt l k j).toNat : Int))
  open_ : ∀ j, j < n → w.frozen? ⟨g, j, none⟩ = false
theorem LowRow.on {l : List UInt8} {n g k : Nat} {w : World} (h : LowRow l n g k w) (hn : lowB (l.getD k 0) = l.getD k 0) : LowRow l n g (k + 1) w :=
  ⟨fun j hj => by
    by_cases e : j = k
    · subst e; rw [h.cell j hj, low_here, low_next, hn]
    · rw [h.cell j hj, low_else l e], h.open_⟩
theorem LowRow.put {l : List UInt8} {n g k : Nat} {w : World} (h : LowRow l n g k w) (hk : k < n) : LowRow l n g (k + 1) (w.setCell ⟨g, k, none⟩ (.int .u8 ((lowB (l.getD k 0)).toNat : Int))) :=
  ⟨fun j hj => by
    by_cases e : j = k
    · subst e
      rw [World.cell?_setCell_same (w := w) (a := ⟨g, j, none⟩) (v := .int .u8 ((lowB (l.getD j 0)).toNat : Int)) (h.cell j hj), low_next]
    · rw [World.cell?_setCell_other (w := w) (a := ⟨g, k, none⟩) (b := ⟨g, j, none⟩) (v := .int .u8 ((lowB (l.getD k 0)).toNat : Int)) (by intro x; cases x; exact e rfl), h.cell j hj, low_else l e],
   fun j hj => by rw [World.frozen?_setCell]; exact h.open_ j hj⟩
theorem LowRow.back {l : List UInt8} {n g C : Nat} {w : World} (h : LowRow l n g n w) (hn : l.length = n) :
    (convert 79 9 (.slice (some ⟨g, 0, none⟩) n C)).run Try.prog w = .ok (.string ⟨(l.map lowB).toArray⟩) w := by
  have := run_convert_bytes_back (P := Try.prog) w 79 9 5 ⟨g, 0, none⟩ C (l.map lowB) Try.underlying79 Try.underlying5 Try.underlying9 ?_
  · rw [List.length_map, hn] at this; exact this
  · intro j hj
    rw [List.length_map] at hj
    rw [Addr.add_lit, Nat.zero_add, h.cell j (by omega), lowAt, if_pos (by omega), List.getD_eq_getElem?_getD, List.getElem?_eq_getElem hj, List.getElem_map]
    rfl

namespace Plain
theorem shut_parts {t : List UInt8} (h : shutF t = true) : 2 ≤ t.length ∧ t[0]? = some 40 ∧ t[t.length - 1]? = some 41 := by
  unfold shutF at h
  simpa [and_assoc] using h
theorem shut_not {t : List UInt8} (h2 : 2 ≤ t.length) (h : shutF t = false) (h0 : t[0]? = some 40) : t[t.length - 1]? ≠ some 41 := by
  intro h1
  unfold shutF at h
  rw [decide_eq_true h2, h0, h1] at h
  cases h
end Plain

end Go.Proofs.Ytkjlponggednoac
