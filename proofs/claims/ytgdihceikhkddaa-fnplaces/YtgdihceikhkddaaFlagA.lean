/- Several texts in one: FlagS, FlagTextS, FlagReadS, MailS. Made by fuse_tl.py. -/
import Derived.Test.YtgdihceikhkddaaBase
import Derived.Test.YtgdihceikhkddaaPlainA
import Derived.Deep.AppendLies
import Derived.Lib.ConvBytes
/- Flags: the specification's FlagsOk, l06And, FlagsAfter. -/
namespace Go.Proofs.Ytgdihceikhkddaa
open Go.RowKit
open Plain
set_option linter.unusedVariables false

theorem l01In_held (x l m : Int) (w : World) : Calls Try.prog 19 #[.int .i64 x, .int .i64 l, .int .i64 m] w fun e w' => e = .returned (.bool (decide (l ≤ x) && decide (x ≤ m))) ∧ w' = w := by
  by_cases h : l ≤ x
  · have hd : decide (l ≤ x) = true := by simpa using h
    by_cases h2 : x ≤ m
    · have hd2 : decide (x ≤ m) = true := by simpa using h2
      rw [hd, hd2]
      go_enter Try.func19, Try.ntmps19
      go_wp2
      go_ret
      exact ⟨rfl, rfl⟩
    · have hd2 : decide (x ≤ m) = false := by simpa using h2
      rw [hd, hd2]
      go_enter Try.func19, Try.ntmps19
      go_wp2
      go_ret
      exact ⟨rfl, rfl⟩
  · have hd : decide (l ≤ x) = false := by simpa using h
    rw [hd]
    go_enter Try.func19, Try.ntmps19
    go_wp2
    go_ret
    exact ⟨rfl, rfl⟩
namespace Plain
end Plain

end Go.Proofs.Ytgdihceikhkddaa

/- Flags: the specification's l06Names, FlagsText, l06Bit. -/
namespace Go.Proofs.Ytgdihceikhkddaa
open Go.RowKit
open Plain
set_option linter.unusedVariables false

namespace Plain
end Plain

namespace Plain
end Plain

end Go.Proofs.Ytgdihceikhkddaa

/- Flags: the specification's l06Low, ReadFlags. -/
namespace Go.Proofs.Ytgdihceikhkddaa
open Go.RowKit
open Plain
set_option linter.unusedVariables false

def lowAt (l : List UInt8) (k j : Nat) : UInt8 := if j < k then lowB (l.getD j 0) else l.getD j 0
theorem low_here (l : List UInt8) (k : Nat) : lowAt l k k = l.getD k 0 := if_neg (Nat.lt_irrefl _)
theorem low_next (l : List UInt8) (k : Nat) : lowAt l (k + 1) k = lowB (l.getD k 0) := if_pos (Nat.lt_succ_self _)
theorem low_else (l : List UInt8) {k j : Nat} (h : j ≠ k) : lowAt l (k + 1) j = lowAt l k j := by
  unfold lowAt
  by_cases h1 : j < k
  · rw [if_pos h1, if_pos (by omega)]
  · rw [if_neg h1, if_neg (by omega)]
/-- The row under way. -/
structure LowRow (l : List UInt8) (n g k : Nat) (w : World) : Prop where
  cell : ∀ j, j < n → w.cell? ⟨g, j, none⟩ = some (.int .u8 ((lowAt l k j).toNat : Int))
  open_ : ∀ j, j < n → w.frozen? ⟨g, j, none⟩ = false
theorem LowRow.on {l : List UInt8} {n g k : Nat} {w : World} (h : LowRow l n g k w) (hn : lowB (l.getD k 0) = l.getD k 0) : LowRow l n g (k + 1) w :=
  ⟨fun j hj => by
    by_cases e : j = k
    · subst e; rw [h.cell j hj, low_here, low_next, hn]
    · rw [h.cell j hj, low_else l e], h.open_⟩
theorem LowRow.put {l : List UInt8} {n g k : Nat} {w : World} (h : LowRow l n g k w) (hk : k < n) : LowRow l n g (k + 1) (w.setCell ⟨g, k, none⟩ (.int .u8 ((lowB (l.getD k 0)).toNat : Int))) :=
  ⟨fun j hj => by
    by_cases e : j = k
    · subst e
      rw [World.cell?_setCell_same (w := w) (a := ⟨g, j, none⟩) (v := .int .u8 ((lowB (l.getD j 0)).toNat : Int)) (h.cell j hj), low_next]
    · rw [World.cell?_setCell_other (w := w) (a := ⟨g, k, none⟩) (b := ⟨g, j, none⟩) (v := .int .u8 ((lowB (l.getD k 0)).toNat : Int)) (by intro x; cases x; exact e rfl), h.cell j hj, low_else l e],
   fun j hj => by rw [World.frozen?_setCell]; exact h.open_ j hj⟩
theorem LowRow.back {l : List UInt8} {n g C : Nat} {w : World} (h : LowRow l n g n w) (hn : l.length = n) :
    (convert 22 9 (.slice (some ⟨g, 0, none⟩) n C)).run Try.prog w = .ok (.string ⟨(l.map lowB).toArray⟩) w := by
  have := run_convert_bytes_back (P := Try.prog) w 22 9 5 ⟨g, 0, none⟩ C (l.map lowB) Try.underlying22 Try.underlying5 Try.underlying9 ?_
  · rw [List.length_map, hn] at this; exact this
  · intro j hj
    rw [List.length_map] at hj
    rw [Addr.add_lit, Nat.zero_add, h.cell j (by omega), lowAt, if_pos (by omega), List.getD_eq_getElem?_getD, List.getElem?_eq_getElem hj, List.getElem_map]
    rfl

namespace Plain
end Plain

end Go.Proofs.Ytgdihceikhkddaa

/- Mails: the specification's PartOf, MailOk, l07Trim. -/
namespace Go.Proofs.Ytgdihceikhkddaa
open Go.RowKit
open Plain
set_option linter.unusedVariables false

namespace Plain
end Plain

namespace Plain
end Plain

namespace Plain
end Plain

end Go.Proofs.Ytgdihceikhkddaa
