/- Several texts in one: FlagS, FlagTextS, FlagReadS, MailS. Made by fuse_tl.py. -/
import Derived.Test.YtlngjflhbkannaaGreatBmA
import Derived.Test.YtlngjflhbkannaaGreatPlainA
import Derived.Deep.AppendLies
import Derived.Lib.ConvBytes
/- Flags: the specification's FlagsOk, l06And, FlagsAfter. -/
namespace Go.Proofs.YtlngjflhbkannaaGreat
open Go.RowKit
open Plain
set_option linter.unusedVariables false

theorem l01In_held (x l m : Int) (w : World) : Calls Tryz.prog 86 #[.int .i64 x, .int .i64 l, .int .i64 m] w fun e w' => e = .returned (.bool (decide (l ≤ x) && decide (x ≤ m))) ∧ w' = w := by
  by_cases h : l ≤ x
  · have hd : decide (l ≤ x) = true := by simpa using h
    by_cases h2 : x ≤ m
    · have hd2 : decide (x ≤ m) = true := by simpa using h2
      rw [hd, hd2]
      go_enter Tryz.func86, Tryz.ntmps86
      go_wp2
      go_ret
      exact ⟨rfl, rfl⟩
    · have hd2 : decide (x ≤ m) = false := by simpa using h2
      rw [hd, hd2]
      go_enter Tryz.func86, Tryz.ntmps86
      go_wp2
      go_ret
      exact ⟨rfl, rfl⟩
  · have hd : decide (l ≤ x) = false := by simpa using h
    rw [hd]
    go_enter Tryz.func86, Tryz.ntmps86
    go_wp2
    go_ret
    exact ⟨rfl, rfl⟩
theorem spec_FlagsOk_any (b : Int) (w : World) :
    Calls Tryz.prog 87 #[.int .i64 b] w fun e w' => e = .returned (.bool (flOk b)) ∧ w' = w := by
  have q := hide (l01In_held b 0 31 w)
  go_enter Tryz.func87, Tryz.ntmps87
  go_wp2_with (go_at_call 86; refine (uh q).mono ?_; rintro e w1 ⟨rfl, hw1⟩; subst w1)
  go_ret
  exact ⟨rfl, rfl⟩

namespace Plain
theorem and_range (a b : Int) : ∀ k, k ≤ 5 → 0 ≤ andTo a b k ∧ andTo a b k < 2 ^ k := by
  intro k
  induction k with
  | zero => intro _; exact ⟨Int.le_refl _, by show (0 : Int) < 2 ^ 0; decide⟩
  | succ k ih =>
    intro hk
    obtain ⟨i1, i2⟩ := ih (by omega)
    have hp : (0 : Int) < 2 ^ k := Int.pow_pos (by decide)
    rw [andTo, Int.pow_succ]
    split <;> omega
end Plain

set_option maxHeartbeats 2000000 in
set_option maxRecDepth 100000 in
theorem l06And_any (a b : Int) (w : World) (ha0 : 0 ≤ a) (ha : a ≤ 31) (hb0 : 0 ≤ b) (hb : b ≤ 31) :
    Calls Tryz.prog 77 #[.int .i64 a, .int .i64 b] w fun e w' => e = .returned (.int .i64 (andTo a b 5)) ∧ w' = w := by
  have R := hide (and_range a b)
  go_enter Tryz.func77, Tryz.ntmps77
  go_wp2
  go_loop [5, 6] (fun n i => ∃ k : Nat, k ≤ 5 ∧ i = .int .i64 (2 ^ k) ∧ n = .int .i64 (andTo a b k)) (fun _ i => 64 - (intOf i).toNat)
  case atStart => exact ⟨0, by omega, rfl, rfl⟩
  case round =>
    obtain ⟨k, hk, rfl, rfl⟩ := hrel
    have S := hide (show andTo a b (k + 1) = if a / 2 ^ k % 2 = 1 ∧ b / 2 ^ k % 2 = 1 then andTo a b k + 2 ^ k else andTo a b k from rfl)
    obtain ⟨r1, r2⟩ := uh R k hk
    rcases (show k = 0 ∨ k = 1 ∨ k = 2 ∨ k = 3 ∨ k = 4 ∨ k = 5 by omega) with rfl | rfl | rfl | rfl | rfl | rfl
    · generalize hn : andTo a b 0 = n at *
      clear hn
      simp only [Int.reducePow, Int.ediv_one] at S r2
      simp only [Int.reducePow]
      by_cases h1 : a % 2 = 1
      · have t1 : (a % 2 == 1) = true := by simpa using h1
        by_cases h2 : b % 2 = 1
        · have t2 : (b % 2 == 1) = true := by simpa using h2
          have E : Hid (andTo a b 1 = n + 1) := (uh S).trans (if_pos ⟨h1, h2⟩)
          clear h1 h2
          go_wp2
          exact ⟨⟨1, by omega, rfl, by rw [uh E]⟩, by decide⟩
        · have t2 : (b % 2 == 1) = false := by simpa using h2
          have E : Hid (andTo a b 1 = n) := (uh S).trans (if_neg (fun h => h2 h.2))
          clear h1 h2
          go_wp2
          exact ⟨⟨1, by omega, rfl, by rw [uh E]⟩, by decide⟩
      · have t1 : (a % 2 == 1) = false := by simpa using h1
        have E : Hid (andTo a b 1 = n) := (uh S).trans (if_neg (fun h => h1 h.1))
        clear h1
        go_wp2
        exact ⟨⟨1, by omega, rfl, by rw [uh E]⟩, by decide⟩
    · generalize hn : andTo a b 1 = n at *
      clear hn
      simp only [Int.reducePow] at S r2
      simp only [Int.reducePow]
      by_cases h1 : a / 2 % 2 = 1
      · have t1 : (a / 2 % 2 == 1) = true := by simpa using h1
        by_cases h2 : b / 2 % 2 = 1
        · have t2 : (b / 2 % 2 == 1) = true := by simpa using h2
          have E : Hid (andTo a b 2 = n + 2) := (uh S).trans (if_pos ⟨h1, h2⟩)
          clear h1 h2
          go_wp2
          exact ⟨⟨2, by omega, rfl, by rw [uh E]⟩, by decide⟩
        · have t2 : (b / 2 % 2 == 1) = false := by simpa using h2
          have E : Hid (andTo a b 2 = n) := (uh S).trans (if_neg (fun h => h2 h.2))
          clear h1 h2
          go_wp2
          exact ⟨⟨2, by omega, rfl, by rw [uh E]⟩, by decide⟩
      · have t1 : (a / 2 % 2 == 1) = false := by simpa using h1
        have E : Hid (andTo a b 2 = n) := (uh S).trans (if_neg (fun h => h1 h.1))
        clear h1
        go_wp2
        exact ⟨⟨2, by omega, rfl, by rw [uh E]⟩, by decide⟩
    · generalize hn : andTo a b 2 = n at *
      clear hn
      simp only [Int.reducePow] at S r2
      simp only [Int.reducePow]
      by_cases h1 : a / 4 % 2 = 1
      · have t1 : (a / 4 % 2 == 1) = true := by simpa using h1
        by_cases h2 : b / 4 % 2 = 1
        · have t2 : (b / 4 % 2 == 1) = true := by simpa using h2
          have E : Hid (andTo a b 3 = n + 4) := (uh S).trans (if_pos ⟨h1, h2⟩)
          clear h1 h2
          go_wp2
          exact ⟨⟨3, by omega, rfl, by rw [uh E]⟩, by decide⟩
        · have t2 : (b / 4 % 2 == 1) = false := by simpa using h2
          have E : Hid (andTo a b 3 = n) := (uh S).trans (if_neg (fun h => h2 h.2))
          clear h1 h2
          go_wp2
          exact ⟨⟨3, by omega, rfl, by rw [uh E]⟩, by decide⟩
      · have t1 : (a / 4 % 2 == 1) = false := by simpa using h1
        have E : Hid (andTo a b 3 = n) := (uh S).trans (if_neg (fun h => h1 h.1))
        clear h1
        go_wp2
        exact ⟨⟨3, by omega, rfl, by rw [uh E]⟩, by decide⟩
    · generalize hn : andTo a b 3 = n at *
      clear hn
      simp only [Int.reducePow] at S r2
      simp only [Int.reducePow]
      by_cases h1 : a / 8 % 2 = 1
      · have t1 : (a / 8 % 2 == 1) = true := by simpa using h1
        by_cases h2 : b / 8 % 2 = 1
        · have t2 : (b / 8 % 2 == 1) = true := by simpa using h2
          have E : Hid (andTo a b 4 = n + 8) := (uh S).trans (if_pos ⟨h1, h2⟩)
          clear h1 h2
          go_wp2
          exact ⟨⟨4, by omega, rfl, by rw [uh E]⟩, by decide⟩
        · have t2 : (b / 8 % 2 == 1) = false := by simpa using h2
          have E : Hid (andTo a b 4 = n) := (uh S).trans (if_neg (fun h => h2 h.2))
          clear h1 h2
          go_wp2
          exact ⟨⟨4, by omega, rfl, by rw [uh E]⟩, by decide⟩
      · have t1 : (a / 8 % 2 == 1) = false := by simpa using h1
        have E : Hid (andTo a b 4 = n) := (uh S).trans (if_neg (fun h => h1 h.1))
        clear h1
        go_wp2
        exact ⟨⟨4, by omega, rfl, by rw [uh E]⟩, by decide⟩
    · generalize hn : andTo a b 4 = n at *
      clear hn
      simp only [Int.reducePow] at S r2
      simp only [Int.reducePow]
      by_cases h1 : a / 16 % 2 = 1
      · have t1 : (a / 16 % 2 == 1) = true := by simpa using h1
        by_cases h2 : b / 16 % 2 = 1
        · have t2 : (b / 16 % 2 == 1) = true := by simpa using h2
          have E : Hid (andTo a b 5 = n + 16) := (uh S).trans (if_pos ⟨h1, h2⟩)
          clear h1 h2
          go_wp2
          exact ⟨⟨5, by omega, rfl, by rw [uh E]⟩, by decide⟩
        · have t2 : (b / 16 % 2 == 1) = false := by simpa using h2
          have E : Hid (andTo a b 5 = n) := (uh S).trans (if_neg (fun h => h2 h.2))
          clear h1 h2
          go_wp2
          exact ⟨⟨5, by omega, rfl, by rw [uh E]⟩, by decide⟩
      · have t1 : (a / 16 % 2 == 1) = false := by simpa using h1
        have E : Hid (andTo a b 5 = n) := (uh S).trans (if_neg (fun h => h1 h.1))
        clear h1
        go_wp2
        exact ⟨⟨5, by omega, rfl, by rw [uh E]⟩, by decide⟩
    · generalize hn : andTo a b 5 = n at *
      have HN := hide hn; clear hn
      simp only [Int.reducePow] at r2
      simp only [Int.reducePow]
      go_wp2
      go_ret
      exact ⟨by rw [uh HN]; rfl, rfl⟩

set_option maxHeartbeats 2000000 in
set_option maxRecDepth 100000 in
theorem spec_FlagsAfter_any (old how bits : Int) (w : World) :
    Calls Tryz.prog 88 #[.int .i64 old, .int .i64 how, .int .i64 bits] w fun e w' => e = .returned (.int .i64 (afterV old how bits)) ∧ w' = w := by
  have q1 := fun W => spec_FlagsOk_any old W
  have q2 := fun W => spec_FlagsOk_any bits W
  cases ho : flOk old with
  | false =>
    have V := hide (afterV_no (old := old) (how := how) (bits := bits) (fun h => by rw [ho] at h; cases h.1))
    rw [ho] at q1
    have Q1 := hide q1; clear q1 q2 ho
    go_enter Tryz.func88, Tryz.ntmps88
    go_wp2_with (go_at_call 87; refine (uh Q1 _).mono ?_; rintro e w1 ⟨rfl, hw1⟩; subst w1)
    go_ret
    exact ⟨by rw [uh V]; rfl, rfl⟩
  | true =>
    rw [ho] at q1
    have Q1 := hide q1; clear q1
    cases hb : flOk bits with
    | false =>
      have V := hide (afterV_no (old := old) (how := how) (bits := bits) (fun h => by rw [hb] at h; cases h.2))
      rw [hb] at q2
      have Q2 := hide q2; clear q2 ho hb
      go_enter Tryz.func88, Tryz.ntmps88
      go_wp2_with fail
      refine (uh Q1 _).mono ?_
      rintro e w1 ⟨rfl, hw1⟩
      subst w1
      go_wp2_with fail
      refine (uh Q2 _).mono ?_
      rintro e w1 ⟨rfl, hw1⟩
      subst w1
      go_wp2
      go_ret
      exact ⟨by rw [uh V]; rfl, rfl⟩
    | true =>
      have V := hide (afterV_in (how := how) ⟨ho, hb⟩)
      rw [hb] at q2
      have Q2 := hide q2
      obtain ⟨o1, o2⟩ := flOk_parts ho
      obtain ⟨b1, b2⟩ := flOk_parts hb
      have QA := hide (l06And_any old bits w o1 o2 b1 b2)
      obtain ⟨n1, n2⟩ := and_range old bits 5 (by omega)
      rw [show (2 : Int) ^ 5 = 32 from rfl] at n2
      generalize andTo old bits 5 = n at *
      clear q2 ho hb
      by_cases h1 : how = 1
      · subst h1
        go_enter Tryz.func88, Tryz.ntmps88
        go_wp2_with fail
        refine (uh Q1 _).mono ?_
        rintro e w1 ⟨rfl, hw1⟩
        subst w1
        go_wp2_with fail
        refine (uh Q2 _).mono ?_
        rintro e w1 ⟨rfl, hw1⟩
        subst w1
        go_wp2
        go_ret
        exact ⟨by rw [uh V]; rfl, rfl⟩
      · by_cases h2 : how = 2
        · subst h2
          go_enter Tryz.func88, Tryz.ntmps88
          go_wp2_with fail
          refine (uh Q1 _).mono ?_
          rintro e w1 ⟨rfl, hw1⟩
          subst w1
          go_wp2_with fail
          refine (uh Q2 _).mono ?_
          rintro e w1 ⟨rfl, hw1⟩
          subst w1
          go_wp2_with fail
          refine (uh QA).mono ?_
          rintro e w1 ⟨rfl, hw1⟩
          subst w1
          go_wp2
          go_ret
          exact ⟨by rw [uh V]; rfl, rfl⟩
        · by_cases h3 : how = 3
          · subst h3
            go_enter Tryz.func88, Tryz.ntmps88
            go_wp2_with fail
            refine (uh Q1 _).mono ?_
            rintro e w1 ⟨rfl, hw1⟩
            subst w1
            go_wp2_with fail
            refine (uh Q2 _).mono ?_
            rintro e w1 ⟨rfl, hw1⟩
            subst w1
            go_wp2_with fail
            refine (uh QA).mono ?_
            rintro e w1 ⟨rfl, hw1⟩
            subst w1
            go_wp2
            go_ret
            exact ⟨by rw [uh V]; rfl, rfl⟩
          · have t1 : (how == 1) = false := by simpa using h1
            have t2 : (how == 2) = false := by simpa using h2
            have t3 : (how == 3) = false := by simpa using h3
            rw [if_neg h1, if_neg h2, if_neg h3] at V
            clear h1 h2 h3
            go_enter Tryz.func88, Tryz.ntmps88
            go_wp2_with fail
            refine (uh Q1 _).mono ?_
            rintro e w1 ⟨rfl, hw1⟩
            subst w1
            go_wp2_with fail
            refine (uh Q2 _).mono ?_
            rintro e w1 ⟨rfl, hw1⟩
            subst w1
            go_wp2
            go_ret
            exact ⟨by rw [uh V]; rfl, rfl⟩
end Go.Proofs.YtlngjflhbkannaaGreat

/- Flags: the specification's l06Names, FlagsText, l06Bit. -/
namespace Go.Proofs.YtlngjflhbkannaaGreat
open Go.RowKit
open Plain
set_option linter.unusedVariables false

namespace Plain
end Plain

namespace Plain
end Plain

end Go.Proofs.YtlngjflhbkannaaGreat

/- Flags: the specification's l06Low, ReadFlags. -/
namespace Go.Proofs.YtlngjflhbkannaaGreat
open Go.RowKit
open Plain
set_option linter.unusedVariables false

def lowAt (l : List UInt8) (k j : Nat) : UInt8 := if j < k then lowB (l.getD j 0) else l.getD j 0
theorem low_here (l : List UInt8) (k : Nat) : lowAt l k k = l.getD k 0 := if_neg (Nat.lt_irrefl _)
theorem low_next (l : List UInt8) (k : Nat) : lowAt l (k + 1) k = lowB (l.getD k 0) := if_pos (Nat.lt_succ_self _)
theorem low_else (l : List UInt8) {k j : Nat} (h : j ≠ k) : lowAt l (k + 1) j = lowAt l k j := by
  unfold lowAt
  by_cases h1 : j < k
  · rw [if_pos h1, if_pos (by omega)]
  · rw [if_neg h1, if_neg (by omega)]
/-- The row under way. -/
structure LowRow (l : List UInt8) (n g k : Nat) (w : World) : Prop where
  cell : ∀ j, j < n → w.cell? ⟨g, j, none⟩ = some (.int .u8 ((lowAt l k j).toNat : Int))
  open_ : ∀ j, j < n → w.frozen? ⟨g, j, none⟩ = false
theorem LowRow.on {l : List UInt8} {n g k : Nat} {w : World} (h : LowRow l n g k w) (hn : lowB (l.getD k 0) = l.getD k 0) : LowRow l n g (k + 1) w :=
  ⟨fun j hj => by
    by_cases e : j = k
    · subst e; rw [h.cell j hj, low_here, low_next, hn]
    · rw [h.cell j hj, low_else l e], h.open_⟩
theorem LowRow.put {l : List UInt8} {n g k : Nat} {w : World} (h : LowRow l n g k w) (hk : k < n) : LowRow l n g (k + 1) (w.setCell ⟨g, k, none⟩ (.int .u8 ((lowB (l.getD k 0)).toNat : Int))) :=
  ⟨fun j hj => by
    by_cases e : j = k
    · subst e
      rw [World.cell?_setCell_same (w := w) (a := ⟨g, j, none⟩) (v := .int .u8 ((lowB (l.getD j 0)).toNat : Int)) (h.cell j hj), low_next]
    · rw [World.cell?_setCell_other (w := w) (a := ⟨g, k, none⟩) (b := ⟨g, j, none⟩) (v := .int .u8 ((lowB (l.getD k 0)).toNat : Int)) (by intro x; cases x; exact e rfl), h.cell j hj, low_else l e],
   fun j hj => by rw [World.frozen?_setCell]; exact h.open_ j hj⟩
theorem LowRow.back {l : List UInt8} {n g C : Nat} {w : World} (h : LowRow l n g n w) (hn : l.length = n) :
    (convert 45 9 (.slice (some ⟨g, 0, none⟩) n C)).run Tryz.prog w = .ok (.string ⟨(l.map lowB).toArray⟩) w := by
  have := run_convert_bytes_back (P := Tryz.prog) w 45 9 5 ⟨g, 0, none⟩ C (l.map lowB) Tryz.underlying45 Tryz.underlying5 Tryz.underlying9 ?_
  · rw [List.length_map, hn] at this; exact this
  · intro j hj
    rw [List.length_map] at hj
    rw [Addr.add_lit, Nat.zero_add, h.cell j (by omega), lowAt, if_pos (by omega), List.getD_eq_getElem?_getD, List.getElem?_eq_getElem hj, List.getElem_map]
    rfl

namespace Plain
end Plain

end Go.Proofs.YtlngjflhbkannaaGreat

/- Mails: the specification's PartOf, MailOk, l07Trim. -/
namespace Go.Proofs.YtlngjflhbkannaaGreat
open Go.RowKit
open Plain
set_option linter.unusedVariables false

namespace Plain
end Plain

namespace Plain
theorem all_step {t : List UInt8} {k : Nat} {x : UInt8} (h : t[k]? = some x) (ha : (t.take k).all (fun b => b != 0) = true) (hx : x ≠ 0) : (t.take (k + 1)).all (fun b => b != 0) = true := by
  rw [List.take_add_one, h, List.all_append, ha]
  simpa using hx
theorem all_no {t : List UInt8} {k : Nat} (h : t[k]? = some 0) : t.all (fun b => b != 0) = false := by
  rw [List.all_eq_false]
  exact ⟨0, List.mem_of_getElem? h, by decide⟩
end Plain

set_option maxHeartbeats 2000000 in
set_option maxRecDepth 100000 in
theorem spec_MailOk_any (s : ByteArray) (w : World) (hs : s.size ≤ 1048576) :
    Calls Tryz.prog 100 #[.string s] w fun e w' => e = .returned (.bool (mailOkL s.data.toList)) ∧ w' = w := by
  have Q := hide (l01In_held (s.size : Int) 1 200 w)
  go_enter Tryz.func100, Tryz.ntmps100
  go_wp2
  go_loop [3] (fun i => ∃ k : Nat, k ≤ s.size ∧ i = .int .i64 k ∧ (s.data.toList.take k).all (fun b => b != 0) = true) (fun i => s.size - (intOf i).toNat)
  case atStart => exact ⟨0, Nat.zero_le _, rfl, rfl⟩
  case round =>
    obtain ⟨k, hk, rfl, hall⟩ := hrel
    by_cases hlt : k < s.size
    · have hb := byte_at hlt
      by_cases h0 : s[k].toNat = 0
      · have t0 : ((s[k].toNat : Int) == 0) = true := by rw [beq_iff_eq]; omega
        have e0 : s[k] = 0 := UInt8.toNat_inj.1 h0
        have V : Hid (mailOkL s.data.toList = false) := by
          show mailOkL _ = false
          unfold mailOkL
          rw [all_no (by rw [hb, e0])]
          rfl
        clear hall hb e0 h0
        go_wp2
        go_ret
        exact ⟨by rw [uh V]; rfl, rfl⟩
      · have t0 : ((s[k].toNat : Int) == 0) = false := by rw [beq_eq_false_iff_ne]; omega
        have ST := hide (all_step hb hall (fun e => h0 (by rw [e]; rfl)))
        clear hall hb h0
        go_wp2
        exact ⟨⟨k + 1, by omega, by go_num, uh ST⟩, by simp [intOf]; omega⟩
    · have e : s.data.toList.take k = s.data.toList := List.take_of_length_le (by show s.size ≤ k; omega)
      rw [e] at hall
      have V : Hid (mailOkL s.data.toList = (decide ((1 : Int) ≤ (s.size : Int)) && decide ((s.size : Int) ≤ 200))) := by
        show mailOkL _ = _
        unfold mailOkL
        rw [hall, Bool.true_and, show s.data.toList.length = s.size from rfl]
        congr 1
        · apply decide_eq_decide.2; omega
        · apply decide_eq_decide.2; omega
      clear hall e
      go_wp2_with (go_at_call 86; refine (uh Q).mono ?_; rintro e w1 ⟨rfl, hw1⟩; subst w1)
      go_ret
      exact ⟨by rw [uh V]; rfl, rfl⟩

namespace Plain
end Plain

end Go.Proofs.YtlngjflhbkannaaGreat
