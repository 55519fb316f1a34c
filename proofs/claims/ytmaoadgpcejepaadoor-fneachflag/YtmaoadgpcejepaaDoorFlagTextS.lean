/- Flags: the specification's l06Names, FlagsText, l06Bit. -/
import Derived.Test.YtmaoadgpcejepaaDoorFlagS
import Derived.Deep.AppendLies
namespace Go.Proofs.YtmaoadgpcejepaaDoor
open Go.RowKit
open Plain
set_option linter.unusedVariables false

namespace Plain
theorem word_on (s n : List UInt8) (h : s ≠ []) : (⟨s.toArray⟩ : ByteArray) ++ ⟨#[32]⟩ ++ ⟨n.toArray⟩ = ⟨(wordOn s n).toArray⟩ := by
  rw [show (⟨#[32]⟩ : ByteArray) = ⟨([32] : List UInt8).toArray⟩ from rfl, ByteArray.mk_append_mk, ByteArray.mk_append_mk, wordOn, if_neg h]
  congr 2
  simp
theorem shut_on (s : List UInt8) : (⟨#[40]⟩ : ByteArray) ++ ⟨s.toArray⟩ ++ ⟨#[41]⟩ = ⟨(40 :: s ++ [41]).toArray⟩ := by
  rw [show (⟨#[40]⟩ : ByteArray) = ⟨([40] : List UInt8).toArray⟩ from rfl, show (⟨#[41]⟩ : ByteArray) = ⟨([41] : List UInt8).toArray⟩ from rfl, ByteArray.mk_append_mk, ByteArray.mk_append_mk]
  rfl
theorem word_len (s n : List UInt8) (h : n.length ≤ 8) : (wordOn s n).length ≤ s.length + 9 := by
  unfold wordOn
  split
  · omega
  · simp; omega
theorem flTo_len (b : Int) : ∀ k, k ≤ 5 → (flTo b k).length ≤ 9 * k := by
  intro k
  induction k with
  | zero => intro _; simp [flTo]
  | succ k ih =>
    intro hk
    have i := ih (by omega)
    have hn : (namesL[k]?.getD []).length ≤ 8 := by
      rcases (show k = 0 ∨ k = 1 ∨ k = 2 ∨ k = 3 ∨ k = 4 by omega) with rfl | rfl | rfl | rfl | rfl <;> decide
    have := word_len (flTo b k) _ hn
    rw [flTo]
    split <;> omega
end Plain

theorem l06Names_any (w : World) :
    Calls Tryd.prog 36 #[] w fun e w' => ∃ g, e = .returned (.slice (some ⟨g, 0, none⟩) 5 5) ∧ Below w.heap.size w w' ∧
      w'.cell? ⟨g, 0, none⟩ = some (.string ⟨#[115, 101, 101, 110]⟩) ∧ w'.cell? ⟨g, 1, none⟩ = some (.string ⟨#[97, 110, 115, 119, 101, 114, 101, 100]⟩) ∧ w'.cell? ⟨g, 2, none⟩ = some (.string ⟨#[102, 108, 97, 103, 103, 101, 100]⟩) ∧ w'.cell? ⟨g, 3, none⟩ = some (.string ⟨#[100, 101, 108, 101, 116, 101, 100]⟩) ∧ w'.cell? ⟨g, 4, none⟩ = some (.string ⟨#[100, 114, 97, 102, 116]⟩) := by
  have cl : ∀ (j : Nat) (u : Value), (#[.string ⟨#[115, 101, 101, 110]⟩, .string ⟨#[97, 110, 115, 119, 101, 114, 101, 100]⟩, .string ⟨#[102, 108, 97, 103, 103, 101, 100]⟩, .string ⟨#[100, 101, 108, 101, 116, 101, 100]⟩, .string ⟨#[100, 114, 97, 102, 116]⟩] : Array Value)[j]? = some u → (w.alloc (.cells #[.string ⟨#[115, 101, 101, 110]⟩, .string ⟨#[97, 110, 115, 119, 101, 114, 101, 100]⟩, .string ⟨#[102, 108, 97, 103, 103, 101, 100]⟩, .string ⟨#[100, 101, 108, 101, 116, 101, 100]⟩, .string ⟨#[100, 114, 97, 102, 116]⟩] 9)).cell? ⟨w.heap.size, j, none⟩ = some u := fun j u h => by
    simpa using h
  have CL := hide cl
  clear cl
  go_enter Tryd.func36, Tryd.ntmps36
  go_wp2
  go_ret
  exact ⟨w.heap.size, rfl, (Below.refl _ _).alloc (Nat.le_refl _) _, unhide CL 0 _ rfl, unhide CL 1 _ rfl, unhide CL 2 _ rfl, unhide CL 3 _ rfl, unhide CL 4 _ rfl⟩

set_option maxHeartbeats 2000000 in
set_option maxRecDepth 100000 in
theorem spec_FlagsText_any (b : Int) (w : World) :
    Calls Tryd.prog 17 #[.int .i64 b] w fun e w' => e = .returned (.string ⟨(flagsL b).toArray⟩) ∧ Below w.heap.size w w' := by
  have q := spec_FlagsOk_any b w
  cases ho : flOk b with
  | false =>
    have V := hide (flagsL_no ho)
    rw [ho] at q
    have Q := hide q
    clear q ho
    go_enter Tryd.func17, Tryd.ntmps17
    go_wp2_with (go_at_call 34; refine (unhide Q).mono ?_; rintro e w1 ⟨rfl, hw1⟩; subst w1)
    go_ret
    exact ⟨by rw [unhide V]; rfl, Below.refl _ _⟩
  | true =>
    have V := hide (flagsL_in ho)
    rw [ho] at q
    have Q := hide q
    obtain ⟨b0, b1⟩ := flOk_parts ho
    have NM := hide (l06Names_any w)
    have LEN := hide (flTo_len b)
    clear q ho
    go_enter Tryd.func17, Tryd.ntmps17
    go_wp2_with fail
    refine (unhide Q).mono ?_
    rintro e w1 ⟨rfl, hw1⟩
    subst w1
    go_wp2_with fail
    refine (unhide NM).mono ?_
    rintro e w1 ⟨g, rfl, hb, k0, k1, k2, k3, k4⟩
    have B := hide hb
    have C0 := hide k0
    have C1 := hide k1
    have C2 := hide k2
    have C3 := hide k3
    have C4 := hide k4
    clear hb k0 k1 k2 k3 k4 NM Q
    go_wp2
    go_loop [3, 5, 6] (fun t p i => ∃ k : Nat, k ≤ 5 ∧ i = .int .i64 k ∧ p = .int .i64 (2 ^ k) ∧ t = .string ⟨(flTo b k).toArray⟩) (fun _ _ i => 5 - (intOf i).toNat)
    case atStart => exact ⟨0, by omega, rfl, rfl, rfl⟩
    case round =>
    obtain ⟨k, hk, rfl, rfl, rfl⟩ := hrel
    have ST := hide (show flTo b (k + 1) = if b / 2 ^ k % 2 = 1 then wordOn (flTo b k) (namesL[k]?.getD []) else flTo b k from rfl)
    have lt : (flTo b k).length ≤ 60 := by have := unhide LEN k hk; omega
    rcases (show k = 0 ∨ k = 1 ∨ k = 2 ∨ k = 3 ∨ k = 4 ∨ k = 5 by omega) with rfl | rfl | rfl | rfl | rfl | rfl
    · generalize flTo b 0 = T at *
      simp only [Int.reducePow, Int.ediv_one] at ST
      simp only [Int.reducePow]
      have c0 := unhide C0
      by_cases h1 : b % 2 = 1
      · have t1 : (b % 2 == 1) = true := by simpa using h1
        rw [if_pos h1] at ST
        clear h1
        by_cases hT : T = []
        · subst hT
          go_wp2
          exact ⟨⟨1, by omega, rfl, rfl, by rw [unhide ST]; rfl⟩, by decide⟩
        · have z : (⟨T.toArray⟩ : ByteArray).toList.isEmpty = false := by rw [ByteArray.toList_eq]; simpa using hT
          have hz : (⟨T.toArray⟩ : ByteArray).size ≤ 60 := lt
          have E := hide (word_on T seenL hT)
          have zI : T.isEmpty = false := by simpa using hT
          go_wp2
          exact ⟨⟨1, by omega, rfl, rfl, by rw [unhide ST, show namesL[0]?.getD [] = seenL from rfl, ← unhide E]; rfl⟩, by decide⟩
      · have t1 : (b % 2 == 1) = false := by simpa using h1
        rw [if_neg h1] at ST
        clear h1
        go_wp2
        exact ⟨⟨1, by omega, rfl, rfl, by rw [unhide ST]⟩, by decide⟩
    · generalize flTo b 1 = T at *
      simp only [Int.reducePow] at ST
      simp only [Int.reducePow]
      have c1 := unhide C1
      by_cases h1 : b / 2 % 2 = 1
      · have t1 : (b / 2 % 2 == 1) = true := by simpa using h1
        rw [if_pos h1] at ST
        clear h1
        by_cases hT : T = []
        · subst hT
          go_wp2
          exact ⟨⟨2, by omega, rfl, rfl, by rw [unhide ST]; rfl⟩, by decide⟩
        · have z : (⟨T.toArray⟩ : ByteArray).toList.isEmpty = false := by rw [ByteArray.toList_eq]; simpa using hT
          have hz : (⟨T.toArray⟩ : ByteArray).size ≤ 60 := lt
          have E := hide (word_on T answL hT)
          have zI : T.isEmpty = false := by simpa using hT
          go_wp2
          exact ⟨⟨2, by omega, rfl, rfl, by rw [unhide ST, show namesL[1]?.getD [] = answL from rfl, ← unhide E]; rfl⟩, by decide⟩
      · have t1 : (b / 2 % 2 == 1) = false := by simpa using h1
        rw [if_neg h1] at ST
        clear h1
        go_wp2
        exact ⟨⟨2, by omega, rfl, rfl, by rw [unhide ST]⟩, by decide⟩
    · generalize flTo b 2 = T at *
      simp only [Int.reducePow] at ST
      simp only [Int.reducePow]
      have c2 := unhide C2
      by_cases h1 : b / 4 % 2 = 1
      · have t1 : (b / 4 % 2 == 1) = true := by simpa using h1
        rw [if_pos h1] at ST
        clear h1
        by_cases hT : T = []
        · subst hT
          go_wp2
          exact ⟨⟨3, by omega, rfl, rfl, by rw [unhide ST]; rfl⟩, by decide⟩
        · have z : (⟨T.toArray⟩ : ByteArray).toList.isEmpty = false := by rw [ByteArray.toList_eq]; simpa using hT
          have hz : (⟨T.toArray⟩ : ByteArray).size ≤ 60 := lt
          have E := hide (word_on T flagL hT)
          have zI : T.isEmpty = false := by simpa using hT
          go_wp2
          exact ⟨⟨3, by omega, rfl, rfl, by rw [unhide ST, show namesL[2]?.getD [] = flagL from rfl, ← unhide E]; rfl⟩, by decide⟩
      · have t1 : (b / 4 % 2 == 1) = false := by simpa using h1
        rw [if_neg h1] at ST
        clear h1
        go_wp2
        exact ⟨⟨3, by omega, rfl, rfl, by rw [unhide ST]⟩, by decide⟩
    · generalize flTo b 3 = T at *
      simp only [Int.reducePow] at ST
      simp only [Int.reducePow]
      have c3 := unhide C3
      by_cases h1 : b / 8 % 2 = 1
      · have t1 : (b / 8 % 2 == 1) = true := by simpa using h1
        rw [if_pos h1] at ST
        clear h1
        by_cases hT : T = []
        · subst hT
          go_wp2
          exact ⟨⟨4, by omega, rfl, rfl, by rw [unhide ST]; rfl⟩, by decide⟩
        · have z : (⟨T.toArray⟩ : ByteArray).toList.isEmpty = false := by rw [ByteArray.toList_eq]; simpa using hT
          have hz : (⟨T.toArray⟩ : ByteArray).size ≤ 60 := lt
          have E := hide (word_on T deleL hT)
          have zI : T.isEmpty = false := by simpa using hT
          go_wp2
          exact ⟨⟨4, by omega, rfl, rfl, by rw [unhide ST, show namesL[3]?.getD [] = deleL from rfl, ← unhide E]; rfl⟩, by decide⟩
      · have t1 : (b / 8 % 2 == 1) = false := by simpa using h1
        rw [if_neg h1] at ST
        clear h1
        go_wp2
        exact ⟨⟨4, by omega, rfl, rfl, by rw [unhide ST]⟩, by decide⟩
    · generalize flTo b 4 = T at *
      simp only [Int.reducePow] at ST
      simp only [Int.reducePow]
      have c4 := unhide C4
      by_cases h1 : b / 16 % 2 = 1
      · have t1 : (b / 16 % 2 == 1) = true := by simpa using h1
        rw [if_pos h1] at ST
        clear h1
        by_cases hT : T = []
        · subst hT
          go_wp2
          exact ⟨⟨5, by omega, rfl, rfl, by rw [unhide ST]; rfl⟩, by decide⟩
        · have z : (⟨T.toArray⟩ : ByteArray).toList.isEmpty = false := by rw [ByteArray.toList_eq]; simpa using hT
          have hz : (⟨T.toArray⟩ : ByteArray).size ≤ 60 := lt
          have E := hide (word_on T drafL hT)
          have zI : T.isEmpty = false := by simpa using hT
          go_wp2
          exact ⟨⟨5, by omega, rfl, rfl, by rw [unhide ST, show namesL[4]?.getD [] = drafL from rfl, ← unhide E]; rfl⟩, by decide⟩
      · have t1 : (b / 16 % 2 == 1) = false := by simpa using h1
        rw [if_neg h1] at ST
        clear h1
        go_wp2
        exact ⟨⟨5, by omega, rfl, rfl, by rw [unhide ST]⟩, by decide⟩
    · generalize flTo b 5 = T at *
      have E := hide (shut_on T)
      have hz : (⟨T.toArray⟩ : ByteArray).size ≤ 60 := lt
      simp only [Int.reducePow]
      go_wp2
      go_ret
      exact ⟨by rw [unhide V, ← unhide E]; rfl, unhide B⟩

namespace Plain
def bitFrom (t : List UInt8) : Nat → Int
  | 0 => if t = seenL then 1 else if t = answL then 2 else if t = flagL then 4 else if t = deleL then 8 else if t = drafL then 16 else 0
  | 1 => if t = answL then 2 else if t = flagL then 4 else if t = deleL then 8 else if t = drafL then 16 else 0
  | 2 => if t = flagL then 4 else if t = deleL then 8 else if t = drafL then 16 else 0
  | 3 => if t = deleL then 8 else if t = drafL then 16 else 0
  | 4 => if t = drafL then 16 else 0
  | _ => 0
end Plain

set_option maxHeartbeats 2000000 in
set_option maxRecDepth 100000 in
theorem l06Bit_any (s : ByteArray) (w : World) :
    Calls Tryd.prog 33 #[.string s] w fun e w' => e = .returned (.int .i64 (bitV s.data.toList)) ∧ Below w.heap.size w w' := by
  have NM := hide (l06Names_any w)
  go_enter Tryd.func33, Tryd.ntmps33
  go_wp2_with fail
  refine (unhide NM).mono ?_
  rintro e w1 ⟨g, rfl, hb, k0, k1, k2, k3, k4⟩
  have B := hide hb
  have C0 := hide k0
  have C1 := hide k1
  have C2 := hide k2
  have C3 := hide k3
  have C4 := hide k4
  clear hb k0 k1 k2 k3 k4 NM
  go_wp2
  go_loop [4, 5] (fun p i => ∃ k : Nat, k ≤ 5 ∧ i = .int .i64 k ∧ p = .int .i64 (2 ^ k) ∧ bitV s.data.toList = bitFrom s.data.toList k) (fun _ i => 5 - (intOf i).toNat)
  case atStart => exact ⟨0, by omega, rfl, rfl, rfl⟩
  case round =>
    obtain ⟨k, hk, rfl, rfl, hv⟩ := hrel
    have HV := hide hv
    clear hv
    rcases (show k = 0 ∨ k = 1 ∨ k = 2 ∨ k = 3 ∨ k = 4 ∨ k = 5 by omega) with rfl | rfl | rfl | rfl | rfl | rfl
    · simp only [Int.reducePow]
      have c0 := unhide C0
      by_cases h1 : s.data.toList = seenL
      · have e : s = ⟨#[115, 101, 101, 110]⟩ := ByteArray.ext (Array.toList_inj.1 h1)
        have V : Hid (bitV s.data.toList = 1) := (unhide HV).trans (if_pos h1)
        clear h1 HV
        subst e
        go_wp2
        go_ret
        exact ⟨by rw [unhide V]; rfl, unhide B⟩
      · have V : Hid (bitV s.data.toList = bitFrom s.data.toList 1) := (unhide HV).trans (if_neg h1)
        have tF : (([115, 101, 101, 110] : List UInt8) == s.toList) = false := by rw [ByteArray.toList_eq, beq_eq_false_iff_ne]; exact fun h => h1 h.symm
        clear h1 HV
        go_wp2
        exact ⟨⟨1, by omega, rfl, rfl, unhide V⟩, by decide⟩
    · simp only [Int.reducePow]
      have c1 := unhide C1
      by_cases h1 : s.data.toList = answL
      · have e : s = ⟨#[97, 110, 115, 119, 101, 114, 101, 100]⟩ := ByteArray.ext (Array.toList_inj.1 h1)
        have V : Hid (bitV s.data.toList = 2) := (unhide HV).trans (if_pos h1)
        clear h1 HV
        subst e
        go_wp2
        go_ret
        exact ⟨by rw [unhide V]; rfl, unhide B⟩
      · have V : Hid (bitV s.data.toList = bitFrom s.data.toList 2) := (unhide HV).trans (if_neg h1)
        have tF : (([97, 110, 115, 119, 101, 114, 101, 100] : List UInt8) == s.toList) = false := by rw [ByteArray.toList_eq, beq_eq_false_iff_ne]; exact fun h => h1 h.symm
        clear h1 HV
        go_wp2
        exact ⟨⟨2, by omega, rfl, rfl, unhide V⟩, by decide⟩
    · simp only [Int.reducePow]
      have c2 := unhide C2
      by_cases h1 : s.data.toList = flagL
      · have e : s = ⟨#[102, 108, 97, 103, 103, 101, 100]⟩ := ByteArray.ext (Array.toList_inj.1 h1)
        have V : Hid (bitV s.data.toList = 4) := (unhide HV).trans (if_pos h1)
        clear h1 HV
        subst e
        go_wp2
        go_ret
        exact ⟨by rw [unhide V]; rfl, unhide B⟩
      · have V : Hid (bitV s.data.toList = bitFrom s.data.toList 3) := (unhide HV).trans (if_neg h1)
        have tF : (([102, 108, 97, 103, 103, 101, 100] : List UInt8) == s.toList) = false := by rw [ByteArray.toList_eq, beq_eq_false_iff_ne]; exact fun h => h1 h.symm
        clear h1 HV
        go_wp2
        exact ⟨⟨3, by omega, rfl, rfl, unhide V⟩, by decide⟩
    · simp only [Int.reducePow]
      have c3 := unhide C3
      by_cases h1 : s.data.toList = deleL
      · have e : s = ⟨#[100, 101, 108, 101, 116, 101, 100]⟩ := ByteArray.ext (Array.toList_inj.1 h1)
        have V : Hid (bitV s.data.toList = 8) := (unhide HV).trans (if_pos h1)
        clear h1 HV
        subst e
        go_wp2
        go_ret
        exact ⟨by rw [unhide V]; rfl, unhide B⟩
      · have V : Hid (bitV s.data.toList = bitFrom s.data.toList 4) := (unhide HV).trans (if_neg h1)
        have tF : (([100, 101, 108, 101, 116, 101, 100] : List UInt8) == s.toList) = false := by rw [ByteArray.toList_eq, beq_eq_false_iff_ne]; exact fun h => h1 h.symm
        clear h1 HV
        go_wp2
        exact ⟨⟨4, by omega, rfl, rfl, unhide V⟩, by decide⟩
    · simp only [Int.reducePow]
      have c4 := unhide C4
      by_cases h1 : s.data.toList = drafL
      · have e : s = ⟨#[100, 114, 97, 102, 116]⟩ := ByteArray.ext (Array.toList_inj.1 h1)
        have V : Hid (bitV s.data.toList = 16) := (unhide HV).trans (if_pos h1)
        clear h1 HV
        subst e
        go_wp2
        go_ret
        exact ⟨by rw [unhide V]; rfl, unhide B⟩
      · have V : Hid (bitV s.data.toList = bitFrom s.data.toList 5) := (unhide HV).trans (if_neg h1)
        have tF : (([100, 114, 97, 102, 116] : List UInt8) == s.toList) = false := by rw [ByteArray.toList_eq, beq_eq_false_iff_ne]; exact fun h => h1 h.symm
        clear h1 HV
        go_wp2
        exact ⟨⟨5, by omega, rfl, rfl, unhide V⟩, by decide⟩
    · simp only [Int.reducePow]
      go_wp2
      go_ret
      exact ⟨by rw [unhide HV]; rfl, unhide B⟩
end Go.Proofs.YtmaoadgpcejepaaDoor
