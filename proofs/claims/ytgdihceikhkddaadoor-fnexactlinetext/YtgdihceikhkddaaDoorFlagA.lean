/- Several texts in one: FlagS, FlagTextS, FlagReadS, MailS. Made by fuse_tl.py. -/
import Derived.Test.YtgdihceikhkddaaDoorBase
import Derived.Test.YtgdihceikhkddaaDoorPlainA
import Derived.Deep.AppendLies
import Derived.Lib.ConvBytes
/- Flags: the specification's FlagsOk, l06And, FlagsAfter. -/
namespace Go.Proofs.YtgdihceikhkddaaDoor
open Go.RowKit
open Plain
set_option linter.unusedVariables false

theorem l01In_held (x l m : Int) (w : World) : Calls Tryd.prog 18 #[.int .i64 x, .int .i64 l, .int .i64 m] w fun e w' => e = .returned (.bool (decide (l ≤ x) && decide (x ≤ m))) ∧ w' = w := by
  by_cases h : l ≤ x
  · have hd : decide (l ≤ x) = true := by simpa using h
    by_cases h2 : x ≤ m
    · have hd2 : decide (x ≤ m) = true := by simpa using h2
      rw [hd, hd2]
      go_enter Tryd.func18, Tryd.ntmps18
      go_wp2
      go_ret
      exact ⟨rfl, rfl⟩
    · have hd2 : decide (x ≤ m) = false := by simpa using h2
      rw [hd, hd2]
      go_enter Tryd.func18, Tryd.ntmps18
      go_wp2
      go_ret
      exact ⟨rfl, rfl⟩
  · have hd : decide (l ≤ x) = false := by simpa using h
    rw [hd]
    go_enter Tryd.func18, Tryd.ntmps18
    go_wp2
    go_ret
    exact ⟨rfl, rfl⟩
theorem spec_FlagsOk_any (b : Int) (w : World) :
    Calls Tryd.prog 20 #[.int .i64 b] w fun e w' => e = .returned (.bool (flOk b)) ∧ w' = w := by
  have q := hide (l01In_held b 0 31 w)
  go_enter Tryd.func20, Tryd.ntmps20
  go_wp2_with (go_at_call 18; refine (uh q).mono ?_; rintro e w1 ⟨rfl, hw1⟩; subst w1)
  go_ret
  exact ⟨rfl, rfl⟩

namespace Plain
end Plain

end Go.Proofs.YtgdihceikhkddaaDoor

/- Flags: the specification's l06Names, FlagsText, l06Bit. -/
namespace Go.Proofs.YtgdihceikhkddaaDoor
open Go.RowKit
open Plain
set_option linter.unusedVariables false

namespace Plain
theorem word_on (s n : List UInt8) (h : s ≠ []) : (⟨s.toArray⟩ : ByteArray) ++ ⟨#[32]⟩ ++ ⟨n.toArray⟩ = ⟨(wordOn s n).toArray⟩ := by
  rw [show (⟨#[32]⟩ : ByteArray) = ⟨([32] : List UInt8).toArray⟩ from rfl, ByteArray.mk_append_mk, ByteArray.mk_append_mk, wordOn, if_neg h]
  congr 2
  simp
theorem shut_on (s : List UInt8) : (⟨#[40]⟩ : ByteArray) ++ ⟨s.toArray⟩ ++ ⟨#[41]⟩ = ⟨(40 :: s ++ [41]).toArray⟩ := by
  rw [show (⟨#[40]⟩ : ByteArray) = ⟨([40] : List UInt8).toArray⟩ from rfl, show (⟨#[41]⟩ : ByteArray) = ⟨([41] : List UInt8).toArray⟩ from rfl, ByteArray.mk_append_mk, ByteArray.mk_append_mk]
  rfl
theorem word_len (s n : List UInt8) (h : n.length ≤ 8) : (wordOn s n).length ≤ s.length + 9 := by
  unfold wordOn
  split
  · omega
  · simp; omega
theorem flTo_len (b : Int) : ∀ k, k ≤ 5 → (flTo b k).length ≤ 9 * k := by
  intro k
  induction k with
  | zero => intro _; simp [flTo]
  | succ k ih =>
    intro hk
    have i := ih (by omega)
    have hn : (namesL[k]?.getD []).length ≤ 8 := by
      rcases (show k = 0 ∨ k = 1 ∨ k = 2 ∨ k = 3 ∨ k = 4 by omega) with rfl | rfl | rfl | rfl | rfl <;> decide
    have := word_len (flTo b k) _ hn
    rw [flTo]
    split <;> omega
end Plain

theorem l06Names_any (w : World) :
    Calls Tryd.prog 22 #[] w fun e w' => ∃ g, e = .returned (.slice (some ⟨g, 0, none⟩) 5 5) ∧ Below w.heap.size w w' ∧
      w'.cell? ⟨g, 0, none⟩ = some (.string ⟨#[115, 101, 101, 110]⟩) ∧ w'.cell? ⟨g, 1, none⟩ = some (.string ⟨#[97, 110, 115, 119, 101, 114, 101, 100]⟩) ∧ w'.cell? ⟨g, 2, none⟩ = some (.string ⟨#[102, 108, 97, 103, 103, 101, 100]⟩) ∧ w'.cell? ⟨g, 3, none⟩ = some (.string ⟨#[100, 101, 108, 101, 116, 101, 100]⟩) ∧ w'.cell? ⟨g, 4, none⟩ = some (.string ⟨#[100, 114, 97, 102, 116]⟩) := by
  have cl : ∀ (j : Nat) (u : Value), (#[.string ⟨#[115, 101, 101, 110]⟩, .string ⟨#[97, 110, 115, 119, 101, 114, 101, 100]⟩, .string ⟨#[102, 108, 97, 103, 103, 101, 100]⟩, .string ⟨#[100, 101, 108, 101, 116, 101, 100]⟩, .string ⟨#[100, 114, 97, 102, 116]⟩] : Array Value)[j]? = some u → (w.alloc (.cells #[.string ⟨#[115, 101, 101, 110]⟩, .string ⟨#[97, 110, 115, 119, 101, 114, 101, 100]⟩, .string ⟨#[102, 108, 97, 103, 103, 101, 100]⟩, .string ⟨#[100, 101, 108, 101, 116, 101, 100]⟩, .string ⟨#[100, 114, 97, 102, 116]⟩] 9)).cell? ⟨w.heap.size, j, none⟩ = some u := fun j u h => by
    simpa using h
  have CL := hide cl; clear cl
  go_enter Tryd.func22, Tryd.ntmps22
  go_wp2
  go_ret
  exact ⟨w.heap.size, rfl, (Below.refl _ _).alloc (Nat.le_refl _) _, uh CL 0 _ rfl, uh CL 1 _ rfl, uh CL 2 _ rfl, uh CL 3 _ rfl, uh CL 4 _ rfl⟩

set_option maxHeartbeats 2000000 in
set_option maxRecDepth 100000 in
theorem spec_FlagsText_any (b : Int) (w : World) :
    Calls Tryd.prog 12 #[.int .i64 b] w fun e w' => e = .returned (.string ⟨(flagsL b).toArray⟩) ∧ Below w.heap.size w w' := by
  have q := spec_FlagsOk_any b w
  cases ho : flOk b with
  | false =>
    have V := hide (flagsL_no ho)
    rw [ho] at q
    have Q := hide q; clear q ho
    go_enter Tryd.func12, Tryd.ntmps12
    go_wp2_with (go_at_call 20; refine (uh Q).mono ?_; rintro e w1 ⟨rfl, hw1⟩; subst w1)
    go_ret
    exact ⟨by rw [uh V]; rfl, Below.refl _ _⟩
  | true =>
    have V := hide (flagsL_in ho)
    rw [ho] at q
    have Q := hide q
    obtain ⟨b0, b1⟩ := flOk_parts ho
    have NM := hide (l06Names_any w); have LEN := hide (flTo_len b); clear q ho
    go_enter Tryd.func12, Tryd.ntmps12
    go_wp2_with fail
    refine (uh Q).mono ?_
    rintro e w1 ⟨rfl, hw1⟩
    subst w1
    go_wp2_with fail
    refine (uh NM).mono ?_
    rintro e w1 ⟨g, rfl, hb, k0, k1, k2, k3, k4⟩
    have B := hide hb; have C0 := hide k0; have C1 := hide k1; have C2 := hide k2; have C3 := hide k3; have C4 := hide k4; clear hb k0 k1 k2 k3 k4 NM Q
    go_wp2
    go_loop [3, 5, 6] (fun t p i => ∃ k : Nat, k ≤ 5 ∧ i = .int .i64 k ∧ p = .int .i64 (2 ^ k) ∧ t = .string ⟨(flTo b k).toArray⟩) (fun _ _ i => 5 - (intOf i).toNat)
    case atStart => exact ⟨0, by omega, rfl, rfl, rfl⟩
    case round =>
    obtain ⟨k, hk, rfl, rfl, rfl⟩ := hrel
    have ST := hide (show flTo b (k + 1) = if b / 2 ^ k % 2 = 1 then wordOn (flTo b k) (namesL[k]?.getD []) else flTo b k from rfl)
    have lt : (flTo b k).length ≤ 60 := by have := uh LEN k hk; omega
    rcases (show k = 0 ∨ k = 1 ∨ k = 2 ∨ k = 3 ∨ k = 4 ∨ k = 5 by omega) with rfl | rfl | rfl | rfl | rfl | rfl
    · generalize flTo b 0 = T at *
      simp only [Int.reducePow, Int.ediv_one] at ST
      simp only [Int.reducePow]
      have c0 := uh C0
      by_cases h1 : b % 2 = 1
      · have t1 : (b % 2 == 1) = true := by simpa using h1
        rw [if_pos h1] at ST
        clear h1
        by_cases hT : T = []
        · subst hT
          go_wp2
          exact ⟨⟨1, by omega, rfl, rfl, by rw [uh ST]; rfl⟩, by decide⟩
        · have z : (⟨T.toArray⟩ : ByteArray).toList.isEmpty = false := by rw [ByteArray.toList_eq]; simpa using hT
          have hz : (⟨T.toArray⟩ : ByteArray).size ≤ 60 := lt
          have E := hide (word_on T seenL hT)
          have zI : T.isEmpty = false := by simpa using hT
          go_wp2
          exact ⟨⟨1, by omega, rfl, rfl, by rw [uh ST, show namesL[0]?.getD [] = seenL from rfl, ← uh E]; rfl⟩, by decide⟩
      · have t1 : (b % 2 == 1) = false := by simpa using h1
        rw [if_neg h1] at ST
        clear h1
        go_wp2
        exact ⟨⟨1, by omega, rfl, rfl, by rw [uh ST]⟩, by decide⟩
    · generalize flTo b 1 = T at *
      simp only [Int.reducePow] at ST
      simp only [Int.reducePow]
      have c1 := uh C1
      by_cases h1 : b / 2 % 2 = 1
      · have t1 : (b / 2 % 2 == 1) = true := by simpa using h1
        rw [if_pos h1] at ST
        clear h1
        by_cases hT : T = []
        · subst hT
          go_wp2
          exact ⟨⟨2, by omega, rfl, rfl, by rw [uh ST]; rfl⟩, by decide⟩
        · have z : (⟨T.toArray⟩ : ByteArray).toList.isEmpty = false := by rw [ByteArray.toList_eq]; simpa using hT
          have hz : (⟨T.toArray⟩ : ByteArray).size ≤ 60 := lt
          have E := hide (word_on T answL hT)
          have zI : T.isEmpty = false := by simpa using hT
          go_wp2
          exact ⟨⟨2, by omega, rfl, rfl, by rw [uh ST, show namesL[1]?.getD [] = answL from rfl, ← uh E]; rfl⟩, by decide⟩
      · have t1 : (b / 2 % 2 == 1) = false := by simpa using h1
        rw [if_neg h1] at ST
        clear h1
        go_wp2
        exact ⟨⟨2, by omega, rfl, rfl, by rw [uh ST]⟩, by decide⟩
    · generalize flTo b 2 = T at *
      simp only [Int.reducePow] at ST
      simp only [Int.reducePow]
      have c2 := uh C2
      by_cases h1 : b / 4 % 2 = 1
      · have t1 : (b / 4 % 2 == 1) = true := by simpa using h1
        rw [if_pos h1] at ST
        clear h1
        by_cases hT : T = []
        · subst hT
          go_wp2
          exact ⟨⟨3, by omega, rfl, rfl, by rw [uh ST]; rfl⟩, by decide⟩
        · have z : (⟨T.toArray⟩ : ByteArray).toList.isEmpty = false := by rw [ByteArray.toList_eq]; simpa using hT
          have hz : (⟨T.toArray⟩ : ByteArray).size ≤ 60 := lt
          have E := hide (word_on T flagL hT)
          have zI : T.isEmpty = false := by simpa using hT
          go_wp2
          exact ⟨⟨3, by omega, rfl, rfl, by rw [uh ST, show namesL[2]?.getD [] = flagL from rfl, ← uh E]; rfl⟩, by decide⟩
      · have t1 : (b / 4 % 2 == 1) = false := by simpa using h1
        rw [if_neg h1] at ST
        clear h1
        go_wp2
        exact ⟨⟨3, by omega, rfl, rfl, by rw [uh ST]⟩, by decide⟩
    · generalize flTo b 3 = T at *
      simp only [Int.reducePow] at ST
      simp only [Int.reducePow]
      have c3 := uh C3
      by_cases h1 : b / 8 % 2 = 1
      · have t1 : (b / 8 % 2 == 1) = true := by simpa using h1
        rw [if_pos h1] at ST
        clear h1
        by_cases hT : T = []
        · subst hT
          go_wp2
          exact ⟨⟨4, by omega, rfl, rfl, by rw [uh ST]; rfl⟩, by decide⟩
        · have z : (⟨T.toArray⟩ : ByteArray).toList.isEmpty = false := by rw [ByteArray.toList_eq]; simpa using hT
          have hz : (⟨T.toArray⟩ : ByteArray).size ≤ 60 := lt
          have E := hide (word_on T deleL hT)
          have zI : T.isEmpty = false := by simpa using hT
          go_wp2
          exact ⟨⟨4, by omega, rfl, rfl, by rw [uh ST, show namesL[3]?.getD [] = deleL from rfl, ← uh E]; rfl⟩, by decide⟩
      · have t1 : (b / 8 % 2 == 1) = false := by simpa using h1
        rw [if_neg h1] at ST
        clear h1
        go_wp2
        exact ⟨⟨4, by omega, rfl, rfl, by rw [uh ST]⟩, by decide⟩
    · generalize flTo b 4 = T at *
      simp only [Int.reducePow] at ST
      simp only [Int.reducePow]
      have c4 := uh C4
      by_cases h1 : b / 16 % 2 = 1
      · have t1 : (b / 16 % 2 == 1) = true := by simpa using h1
        rw [if_pos h1] at ST
        clear h1
        by_cases hT : T = []
        · subst hT
          go_wp2
          exact ⟨⟨5, by omega, rfl, rfl, by rw [uh ST]; rfl⟩, by decide⟩
        · have z : (⟨T.toArray⟩ : ByteArray).toList.isEmpty = false := by rw [ByteArray.toList_eq]; simpa using hT
          have hz : (⟨T.toArray⟩ : ByteArray).size ≤ 60 := lt
          have E := hide (word_on T drafL hT)
          have zI : T.isEmpty = false := by simpa using hT
          go_wp2
          exact ⟨⟨5, by omega, rfl, rfl, by rw [uh ST, show namesL[4]?.getD [] = drafL from rfl, ← uh E]; rfl⟩, by decide⟩
      · have t1 : (b / 16 % 2 == 1) = false := by simpa using h1
        rw [if_neg h1] at ST
        clear h1
        go_wp2
        exact ⟨⟨5, by omega, rfl, rfl, by rw [uh ST]⟩, by decide⟩
    · generalize flTo b 5 = T at *
      have E := hide (shut_on T)
      have hz : (⟨T.toArray⟩ : ByteArray).size ≤ 60 := lt
      simp only [Int.reducePow]
      go_wp2
      go_ret
      exact ⟨by rw [uh V, ← uh E]; rfl, uh B⟩

namespace Plain
end Plain

end Go.Proofs.YtgdihceikhkddaaDoor

/- Flags: the specification's l06Low, ReadFlags. -/
namespace Go.Proofs.YtgdihceikhkddaaDoor
open Go.RowKit
open Plain
set_option linter.unusedVariables false

def lowAt (l : List UInt8) (k j : Nat) : UInt8 := if j < k then lowB (l.getD j 0) else l.getD j 0
theorem low_here (l : List UInt8) (k : Nat) : lowAt l k k = l.getD k 0 := if_neg (Nat.lt_irrefl _)
theorem low_next (l : List UInt8) (k : Nat) : lowAt l (k + 1) k = lowB (l.getD k 0) := if_pos (Nat.lt_succ_self _)
theorem low_else (l : List UInt8) {k j : Nat} (h : j ≠ k) : lowAt l (k + 1) j = lowAt l k j := by
  unfold lowAt
  by_cases h1 : j < k
  · rw [if_pos h1, if_pos (by omega)]
  · rw [if_neg h1, if_neg (by omega)]
/-- The row under way. -/
structure LowRow (l : List UInt8) (n g k : Nat) (w : World) : Prop where
  cell : ∀ j, j < n → w.cell? ⟨g, j, none⟩ = some (.int .u8 ((lowAt l k j).toNat : Int))
  open_ : ∀ j, j < n → w.frozen? ⟨g, j, none⟩ = false
theorem LowRow.on {l : List UInt8} {n g k : Nat} {w : World} (h : LowRow l n g k w) (hn : lowB (l.getD k 0) = l.getD k 0) : LowRow l n g (k + 1) w :=
  ⟨fun j hj => by
    by_cases e : j = k
    · subst e; rw [h.cell j hj, low_here, low_next, hn]
    · rw [h.cell j hj, low_else l e], h.open_⟩
theorem LowRow.put {l : List UInt8} {n g k : Nat} {w : World} (h : LowRow l n g k w) (hk : k < n) : LowRow l n g (k + 1) (w.setCell ⟨g, k, none⟩ (.int .u8 ((lowB (l.getD k 0)).toNat : Int))) :=
  ⟨fun j hj => by
    by_cases e : j = k
    · subst e
      rw [World.cell?_setCell_same (w := w) (a := ⟨g, j, none⟩) (v := .int .u8 ((lowB (l.getD j 0)).toNat : Int)) (h.cell j hj), low_next]
    · rw [World.cell?_setCell_other (w := w) (a := ⟨g, k, none⟩) (b := ⟨g, j, none⟩) (v := .int .u8 ((lowB (l.getD k 0)).toNat : Int)) (by intro x; cases x; exact e rfl), h.cell j hj, low_else l e],
   fun j hj => by rw [World.frozen?_setCell]; exact h.open_ j hj⟩
theorem LowRow.back {l : List UInt8} {n g C : Nat} {w : World} (h : LowRow l n g n w) (hn : l.length = n) :
    (convert 45 9 (.slice (some ⟨g, 0, none⟩) n C)).run Tryd.prog w = .ok (.string ⟨(l.map lowB).toArray⟩) w := by
  have := run_convert_bytes_back (P := Tryd.prog) w 45 9 5 ⟨g, 0, none⟩ C (l.map lowB) Tryd.underlying45 Tryd.underlying5 Tryd.underlying9 ?_
  · rw [List.length_map, hn] at this; exact this
  · intro j hj
    rw [List.length_map] at hj
    rw [Addr.add_lit, Nat.zero_add, h.cell j (by omega), lowAt, if_pos (by omega), List.getD_eq_getElem?_getD, List.getElem?_eq_getElem hj, List.getElem_map]
    rfl

namespace Plain
end Plain

end Go.Proofs.YtgdihceikhkddaaDoor

/- Mails: the specification's PartOf, MailOk, l07Trim. -/
namespace Go.Proofs.YtgdihceikhkddaaDoor
open Go.RowKit
open Plain
set_option linter.unusedVariables false

namespace Plain
end Plain

namespace Plain
end Plain

namespace Plain
end Plain

end Go.Proofs.YtgdihceikhkddaaDoor
